/- BatchBack: its walk. -/
import Derived.Test.YtaebhbdmmnpgeaaBtW
namespace Go.Proofs.Ytaebhbdmmnpgeaa
open Go.RowKit Go.Shelf
set_option linter.unusedVariables false
set_option linter.unusedSimpArgs false
set_option maxRecDepth 100000
attribute [local go_sem] Oper.semAt_some

theorem by_ways (t : Int) (C : List Cg) : (∃ bs, by15 t C = (bs, 0)) ∨ ∃ be : Int, by15 t C = (⟨#[]⟩, be) ∧ be ≠ 0 := by
  unfold by15
  split
  · split
    · exact .inl ⟨_, rfl⟩
    · exact .inr ⟨5, rfl, by decide⟩
  · exact .inr ⟨2, rfl, by decide⟩
set_option maxHeartbeats 16000000 in
theorem batchBack_of (t m : Int) (C : List Cg) (A : Option Addr) (n c : Nat) (S : ByteArray) (hS : S.size ≤ 140737488355000) (w : World) (h : Cx w (.slice A n c) C) :
    Calls Try.prog 5 #[.agg #[.int .i64 t, .slice A n c], .int .i64 m, .string S] w fun r w' => r = .returned (.bool true) ∧ Turn (fun _ => False) w w' := by
  have HN : Hid (C.length = n) := Lib.hid (by obtain ⟨_, _, e, _⟩ := id h; injection e with _ e _; exact e.symm)
  have hl : n ≤ 9223372036854775807 := by obtain ⟨_, _, e, h2, _⟩ := id h; injection e with _ e _; omega
  have HH := Lib.hid h
  clear h
  obtain ⟨W1, hW1⟩ : ∃ W, w.alloc (.cells #[.int .i64 t, .slice A n c] 24) = W := ⟨_, rfl⟩
  have T1 : Hid (Turn (fun _ => False) w W1) := Lib.hid (hW1 ▸ (Turn.refl _ _).alloc _)
  have B1 : Hid (Blk W1 w.heap.size 24 [.int .i64 t, .slice A n c]) := Lib.hid (hW1 ▸ Blk.new _ _ _)
  obtain ⟨x0, x1⟩ := cells2b B1.out
  by_cases h0 : 300 < n
  · have g0 : (300 : Int) < (n : Int) := by omega
    go_enter Try.func5, Try.ntmps5
    go_wp2_with (go_at_call 15; refine (lives_15 _).mono ?_; rintro e w9 ⟨rfl, t9⟩)
    go_ret
    exact ⟨rfl, T1.out.trans t9⟩
  · have g0 : ¬ (300 : Int) < (n : Int) := by omega
    have HB1 := Lib.hid (fun W (hW : Turn (fun _ => False) w W) => bytes_15 t C _ W (HH.out.still hW))
    have HC1 := Lib.hid (fun W (hW : Turn (fun _ => False) w W) => check_15 t C _ W (HH.out.still hW))
    have HM1 := Lib.hid (fun W => mark_any15 m W)
    clear h0
    rcases by_ways t C with ⟨bs, hby⟩ | ⟨be, hby, hbe⟩
    · have HP : Hid (Res15 bs t C 0 0) := Lib.hid (.inl ⟨rfl, rfl, hby⟩)
      have hbz := (by_on hby).2
      have hbz2 : ¬ (16384 : Int) < (bs.size : Int) := by omega
      rw [hby] at HB1
      simp only at HB1
      clear hby HC1
      go_enter Try.func5, Try.ntmps5
      go_wp2_with fail
      refine (HB1.out _ T1.out).mono ?_
      rintro e w2 ⟨rfl, ht⟩
      have T2 := Lib.hid (T1.out.trans ht)
      have B2 := Lib.hid (B1.out.turn ht (fun h => h))
      obtain ⟨x0, x1⟩ := cells2b B2.out
      clear ht
      go_wp2_with fail
      refine (read_15 bs (by omega) _).mono ?_
      rintro e w3 ⟨t3, v3, D3, m3, e3, rfl, hc, hr, hd, ht⟩
      obtain ⟨q1, q2, q3, q4⟩ := HP.out.inj hr
      subst q1 q2 q3 q4
      have T3 := Lib.hid (T2.out.trans ht)
      have B3 := Lib.hid (B2.out.turn ht (fun h => h))
      obtain ⟨x0, x1⟩ := cells2b B3.out
      obtain ⟨A3, c3, rfl, _⟩ := id hc
      rw [HN.out] at hc ⊢
      have C3 := Lib.hid hc
      clear hc hr hd ht
      have T4 := Lib.hid (T3.out.alloc (.cells #[.int .i64 t, .slice A3 n c3] 24))
      have B4 := Lib.hid (B3.out.alloc (.cells #[.int .i64 t, .slice A3 n c3] 24))
      obtain ⟨x0, x1⟩ := cells2b B4.out
      have Q4 := Lib.hid (Blk.new w3 24 [.int .i64 t, .slice A3 n c3])
      obtain ⟨u0, u1⟩ := cells2b Q4.out
      go_wp2_with fail
      refine (refSame_15 t C _ _ _ (HH.out.still T4.out) (C3.out.still ((Turn.refl _ _).alloc (.cells #[.int .i64 t, .slice A3 n c3] 24)))).mono ?_
      rintro e w5 ⟨rfl, ht⟩
      have T5 := Lib.hid (T4.out.trans ht)
      have B5 := Lib.hid (B4.out.turn ht (fun h => h))
      obtain ⟨x0, x1⟩ := cells2b B5.out
      clear ht
      cases hok : mok15 m
      · unfold mkv15 at HM1
        rw [hok] at HM1
        simp only [Bool.false_eq_true, if_false] at HM1
        go_wp2_with fail
        refine (HM1.out _).mono ?_
        rintro e w10 ⟨rfl, ht⟩
        have T10 := Lib.hid (T5.out.trans ht)
        have B10 := Lib.hid (B5.out.turn ht (fun h => h))
        obtain ⟨x0, x1⟩ := cells2b B10.out
        clear ht hok
        go_wp2_with fail
        refine (read_15 S hS _).mono ?_
        rintro e w20 ⟨t4, v4, D4, m4, e4, rfl, hc, hr, hd, ht⟩
        have T20 := Lib.hid (T10.out.trans ht)
        have B20 := Lib.hid (B10.out.turn ht (fun h => h))
        obtain ⟨x0, x1⟩ := cells2b B20.out
        obtain ⟨A4, c4, rfl, _⟩ := id hc
        obtain ⟨n4, hn4⟩ : ∃ k, D4.length = k := ⟨_, rfl⟩
        rw [hn4] at hc ⊢
        have C20 := Lib.hid hc
        have HN4 := Lib.hid hn4
        clear hn4 hc ht hd
        have T21 := Lib.hid (T20.out.alloc (.cells #[.int .i64 t4, .slice A4 n4 c4] 24))
        have B21 := Lib.hid (B20.out.alloc (.cells #[.int .i64 t4, .slice A4 n4 c4] 24))
        obtain ⟨x0, x1⟩ := cells2b B21.out
        have Q21 := Lib.hid (Blk.new w20 24 [.int .i64 t4, .slice A4 n4 c4])
        obtain ⟨u0, u1⟩ := cells2b Q21.out
        have C21 := Lib.hid (C20.out.still ((Turn.refl _ _).alloc (.cells #[.int .i64 t4, .slice A4 n4 c4] 24)))
        rcases hr with ⟨rfl, rfl, hby4⟩ | ⟨rfl, rfl, rfl, hok4, hmr⟩ | ⟨rfl, rfl, rfl, rfl, _, _⟩
        · have hpos : (0 : Int) < t4 := by have := (by_on hby4).1.small.2.2.1; omega
          have HB4 := Lib.hid (fun W (h : Cx W (.slice A4 n4 c4) D4) => bytes_15 t4 D4 _ W h)
          rw [hby4] at HB4
          simp only at HB4
          clear hby4
          go_wp2_with fail
          refine (mark_any15 0 _).mono ?_
          unfold mkv15
          rw [show mok15 0 = true from by decide]
          simp only [if_true]
          rintro e w22 ⟨rfl, ht⟩
          have T22 := Lib.hid (T21.out.trans ht)
          have C22 := Lib.hid (C21.out.still ht)
          obtain ⟨p0, p1⟩ := cells2b (Q21.out.turn ht (fun h => h))
          clear ht
          have hss := str_same S
          go_wp2_with fail
          refine (HB4.out _ C22.out).mono ?_
          rintro e w23 ⟨rfl, ht⟩
          have T23 := Lib.hid (T22.out.trans ht)
          clear ht
          go_wp2_with fail
          refine (lives_15 _).mono ?_
          rintro e w99 ⟨rfl, ht⟩
          have TE := Lib.hid (T23.out.trans ht)
          clear ht
          go_wp2_with fail
          go_ret
          exact ⟨rfl, TE.out⟩
        · have hpos : ¬ (0 : Int) < 0 := by decide
          have hms : (⟨(mrk15 m4).toArray⟩ : ByteArray) = S := by rw [hmr]
          have hss := str_same S
          go_wp2_with fail
          refine (mark_any15 m4 _).mono ?_
          unfold mkv15
          rw [hok4]
          simp only [if_true]
          rw [hms]
          rintro e w22 ⟨rfl, ht⟩
          have T22 := Lib.hid (T21.out.trans ht)
          obtain ⟨p0, p1⟩ := cells2b (Q21.out.turn ht (fun h => h))
          clear ht hmr hms hok4
          go_wp2_with fail
          refine (lives_15 _).mono ?_
          rintro e w99 ⟨rfl, ht⟩
          have TE := Lib.hid (T22.out.trans ht)
          clear ht
          go_wp2_with fail
          go_ret
          exact ⟨rfl, TE.out⟩
        · have h40 : n4 = 0 := HN4.out.symm
          subst h40
          go_wp2_with fail
          refine (refSame_15 0 [] _ _ _ C21.out ⟨none, 0, rfl, by simp, fun h => by simp at h⟩).mono ?_
          rintro e w22 ⟨rfl, ht⟩
          have T22 := Lib.hid (T21.out.trans ht)
          clear ht
          go_wp2_with fail
          refine (lives_15 _).mono ?_
          rintro e w99 ⟨rfl, ht⟩
          have TE := Lib.hid (T22.out.trans ht)
          clear ht
          go_wp2_with fail
          go_ret
          exact ⟨rfl, TE.out⟩
      · unfold mkv15 at HM1
        rw [hok] at HM1
        simp only [if_true] at HM1
        obtain ⟨ms, hms⟩ : ∃ o : ByteArray, (⟨(mrk15 m).toArray⟩ : ByteArray) = o := ⟨_, rfl⟩
        rw [hms] at HM1
        have HR : Hid (Res15 ms 0 [] m 0) := Lib.hid (.inr (.inl ⟨rfl, rfl, rfl, hok, by rw [← hms]⟩))
        have hmz : ms.size ≤ 140737488355000 := by
          rw [← hms, len_bs2]
          unfold mrk15
          simp [len_fld]
        clear hms hok
        go_wp2_with fail
        refine (HM1.out _).mono ?_
        rintro e w10 ⟨rfl, ht⟩
        have T10 := Lib.hid (T5.out.trans ht)
        have B10 := Lib.hid (B5.out.turn ht (fun h => h))
        obtain ⟨x0, x1⟩ := cells2b B10.out
        clear ht
        go_wp2_with fail
        refine (read_15 ms hmz _).mono ?_
        rintro e w11 ⟨t3, v3, D3, m3, e3, rfl, hc, hr, hd, ht⟩
        obtain ⟨q1, q2, q3, q4⟩ := HR.out.inj hr
        subst q1 q2 q3 q4
        have T11 := Lib.hid (T10.out.trans ht)
        have B11 := Lib.hid (B10.out.turn ht (fun h => h))
        obtain ⟨x0, x1⟩ := cells2b B11.out
        obtain ⟨A3, c3, rfl, _⟩ := id hc
        simp only [List.length_nil] at hc ⊢
        clear hc hr hd ht
        have T12 := Lib.hid (T11.out.alloc (.cells #[.int .i64 0, .slice A3 0 c3] 24))
        have B12 := Lib.hid (B11.out.alloc (.cells #[.int .i64 0, .slice A3 0 c3] 24))
        obtain ⟨x0, x1⟩ := cells2b B12.out
        have Q12 := Lib.hid (Blk.new w11 24 [.int .i64 0, .slice A3 0 c3])
        obtain ⟨u0, u1⟩ := cells2b Q12.out
        go_wp2_with fail
        refine (read_15 S hS _).mono ?_
        rintro e w20 ⟨t4, v4, D4, m4, e4, rfl, hc, hr, hd, ht⟩
        have T20 := Lib.hid (T12.out.trans ht)
        have B20 := Lib.hid (B12.out.turn ht (fun h => h))
        obtain ⟨x0, x1⟩ := cells2b B20.out
        obtain ⟨A4, c4, rfl, _⟩ := id hc
        obtain ⟨n4, hn4⟩ : ∃ k, D4.length = k := ⟨_, rfl⟩
        rw [hn4] at hc ⊢
        have C20 := Lib.hid hc
        have HN4 := Lib.hid hn4
        clear hn4 hc ht hd
        have T21 := Lib.hid (T20.out.alloc (.cells #[.int .i64 t4, .slice A4 n4 c4] 24))
        have B21 := Lib.hid (B20.out.alloc (.cells #[.int .i64 t4, .slice A4 n4 c4] 24))
        obtain ⟨x0, x1⟩ := cells2b B21.out
        have Q21 := Lib.hid (Blk.new w20 24 [.int .i64 t4, .slice A4 n4 c4])
        obtain ⟨u0, u1⟩ := cells2b Q21.out
        have C21 := Lib.hid (C20.out.still ((Turn.refl _ _).alloc (.cells #[.int .i64 t4, .slice A4 n4 c4] 24)))
        rcases hr with ⟨rfl, rfl, hby4⟩ | ⟨rfl, rfl, rfl, hok4, hmr⟩ | ⟨rfl, rfl, rfl, rfl, _, _⟩
        · have hpos : (0 : Int) < t4 := by have := (by_on hby4).1.small.2.2.1; omega
          have HB4 := Lib.hid (fun W (h : Cx W (.slice A4 n4 c4) D4) => bytes_15 t4 D4 _ W h)
          rw [hby4] at HB4
          simp only at HB4
          clear hby4
          go_wp2_with fail
          refine (mark_any15 0 _).mono ?_
          unfold mkv15
          rw [show mok15 0 = true from by decide]
          simp only [if_true]
          rintro e w22 ⟨rfl, ht⟩
          have T22 := Lib.hid (T21.out.trans ht)
          have C22 := Lib.hid (C21.out.still ht)
          obtain ⟨p0, p1⟩ := cells2b (Q21.out.turn ht (fun h => h))
          clear ht
          have hss := str_same S
          go_wp2_with fail
          refine (HB4.out _ C22.out).mono ?_
          rintro e w23 ⟨rfl, ht⟩
          have T23 := Lib.hid (T22.out.trans ht)
          clear ht
          go_wp2_with fail
          refine (lives_15 _).mono ?_
          rintro e w99 ⟨rfl, ht⟩
          have TE := Lib.hid (T23.out.trans ht)
          clear ht
          go_wp2_with fail
          go_ret
          exact ⟨rfl, TE.out⟩
        · have hpos : ¬ (0 : Int) < 0 := by decide
          have hms : (⟨(mrk15 m4).toArray⟩ : ByteArray) = S := by rw [hmr]
          have hss := str_same S
          go_wp2_with fail
          refine (mark_any15 m4 _).mono ?_
          unfold mkv15
          rw [hok4]
          simp only [if_true]
          rw [hms]
          rintro e w22 ⟨rfl, ht⟩
          have T22 := Lib.hid (T21.out.trans ht)
          obtain ⟨p0, p1⟩ := cells2b (Q21.out.turn ht (fun h => h))
          clear ht hmr hms hok4
          go_wp2_with fail
          refine (lives_15 _).mono ?_
          rintro e w99 ⟨rfl, ht⟩
          have TE := Lib.hid (T22.out.trans ht)
          clear ht
          go_wp2_with fail
          go_ret
          exact ⟨rfl, TE.out⟩
        · have h40 : n4 = 0 := HN4.out.symm
          subst h40
          go_wp2_with fail
          refine (refSame_15 0 [] _ _ _ C21.out ⟨none, 0, rfl, by simp, fun h => by simp at h⟩).mono ?_
          rintro e w22 ⟨rfl, ht⟩
          have T22 := Lib.hid (T21.out.trans ht)
          clear ht
          go_wp2_with fail
          refine (lives_15 _).mono ?_
          rintro e w99 ⟨rfl, ht⟩
          have TE := Lib.hid (T22.out.trans ht)
          clear ht
          go_wp2_with fail
          go_ret
          exact ⟨rfl, TE.out⟩
    · have hb0 : (be == 0) = false := by simpa using hbe
      have hbb : (be != be) = false := by simp
      rw [hby] at HB1 HC1
      simp only at HB1 HC1
      clear hby hbe
      go_enter Try.func5, Try.ntmps5
      go_wp2_with fail
      refine (HB1.out _ T1.out).mono ?_
      rintro e w2 ⟨rfl, ht⟩
      have T2 := Lib.hid (T1.out.trans ht)
      have B2 := Lib.hid (B1.out.turn ht (fun h => h))
      obtain ⟨x0, x1⟩ := cells2b B2.out
      clear ht
      go_wp2_with fail
      refine (HC1.out _ T2.out).mono ?_
      rintro e w3 ⟨rfl, ht⟩
      have T3 := Lib.hid (T2.out.trans ht)
      have B3 := Lib.hid (B2.out.turn ht (fun h => h))
      obtain ⟨x0, x1⟩ := cells2b B3.out
      clear ht
      cases hok : mok15 m
      · unfold mkv15 at HM1
        rw [hok] at HM1
        simp only [Bool.false_eq_true, if_false] at HM1
        go_wp2_with fail
        refine (HM1.out _).mono ?_
        rintro e w10 ⟨rfl, ht⟩
        have T10 := Lib.hid (T3.out.trans ht)
        have B10 := Lib.hid (B3.out.turn ht (fun h => h))
        obtain ⟨x0, x1⟩ := cells2b B10.out
        clear ht hok
        go_wp2_with fail
        refine (read_15 S hS _).mono ?_
        rintro e w20 ⟨t4, v4, D4, m4, e4, rfl, hc, hr, hd, ht⟩
        have T20 := Lib.hid (T10.out.trans ht)
        have B20 := Lib.hid (B10.out.turn ht (fun h => h))
        obtain ⟨x0, x1⟩ := cells2b B20.out
        obtain ⟨A4, c4, rfl, _⟩ := id hc
        obtain ⟨n4, hn4⟩ : ∃ k, D4.length = k := ⟨_, rfl⟩
        rw [hn4] at hc ⊢
        have C20 := Lib.hid hc
        have HN4 := Lib.hid hn4
        clear hn4 hc ht hd
        have T21 := Lib.hid (T20.out.alloc (.cells #[.int .i64 t4, .slice A4 n4 c4] 24))
        have B21 := Lib.hid (B20.out.alloc (.cells #[.int .i64 t4, .slice A4 n4 c4] 24))
        obtain ⟨x0, x1⟩ := cells2b B21.out
        have Q21 := Lib.hid (Blk.new w20 24 [.int .i64 t4, .slice A4 n4 c4])
        obtain ⟨u0, u1⟩ := cells2b Q21.out
        have C21 := Lib.hid (C20.out.still ((Turn.refl _ _).alloc (.cells #[.int .i64 t4, .slice A4 n4 c4] 24)))
        rcases hr with ⟨rfl, rfl, hby4⟩ | ⟨rfl, rfl, rfl, hok4, hmr⟩ | ⟨rfl, rfl, rfl, rfl, _, _⟩
        · have hpos : (0 : Int) < t4 := by have := (by_on hby4).1.small.2.2.1; omega
          have HB4 := Lib.hid (fun W (h : Cx W (.slice A4 n4 c4) D4) => bytes_15 t4 D4 _ W h)
          rw [hby4] at HB4
          simp only at HB4
          clear hby4
          go_wp2_with fail
          refine (mark_any15 0 _).mono ?_
          unfold mkv15
          rw [show mok15 0 = true from by decide]
          simp only [if_true]
          rintro e w22 ⟨rfl, ht⟩
          have T22 := Lib.hid (T21.out.trans ht)
          have C22 := Lib.hid (C21.out.still ht)
          obtain ⟨p0, p1⟩ := cells2b (Q21.out.turn ht (fun h => h))
          clear ht
          have hss := str_same S
          go_wp2_with fail
          refine (HB4.out _ C22.out).mono ?_
          rintro e w23 ⟨rfl, ht⟩
          have T23 := Lib.hid (T22.out.trans ht)
          clear ht
          go_wp2_with fail
          refine (lives_15 _).mono ?_
          rintro e w99 ⟨rfl, ht⟩
          have TE := Lib.hid (T23.out.trans ht)
          clear ht
          go_wp2_with fail
          go_ret
          exact ⟨rfl, TE.out⟩
        · have hpos : ¬ (0 : Int) < 0 := by decide
          have hms : (⟨(mrk15 m4).toArray⟩ : ByteArray) = S := by rw [hmr]
          have hss := str_same S
          go_wp2_with fail
          refine (mark_any15 m4 _).mono ?_
          unfold mkv15
          rw [hok4]
          simp only [if_true]
          rw [hms]
          rintro e w22 ⟨rfl, ht⟩
          have T22 := Lib.hid (T21.out.trans ht)
          obtain ⟨p0, p1⟩ := cells2b (Q21.out.turn ht (fun h => h))
          clear ht hmr hms hok4
          go_wp2_with fail
          refine (lives_15 _).mono ?_
          rintro e w99 ⟨rfl, ht⟩
          have TE := Lib.hid (T22.out.trans ht)
          clear ht
          go_wp2_with fail
          go_ret
          exact ⟨rfl, TE.out⟩
        · have h40 : n4 = 0 := HN4.out.symm
          subst h40
          go_wp2_with fail
          refine (refSame_15 0 [] _ _ _ C21.out ⟨none, 0, rfl, by simp, fun h => by simp at h⟩).mono ?_
          rintro e w22 ⟨rfl, ht⟩
          have T22 := Lib.hid (T21.out.trans ht)
          clear ht
          go_wp2_with fail
          refine (lives_15 _).mono ?_
          rintro e w99 ⟨rfl, ht⟩
          have TE := Lib.hid (T22.out.trans ht)
          clear ht
          go_wp2_with fail
          go_ret
          exact ⟨rfl, TE.out⟩
      · unfold mkv15 at HM1
        rw [hok] at HM1
        simp only [if_true] at HM1
        obtain ⟨ms, hms⟩ : ∃ o : ByteArray, (⟨(mrk15 m).toArray⟩ : ByteArray) = o := ⟨_, rfl⟩
        rw [hms] at HM1
        have HR : Hid (Res15 ms 0 [] m 0) := Lib.hid (.inr (.inl ⟨rfl, rfl, rfl, hok, by rw [← hms]⟩))
        have hmz : ms.size ≤ 140737488355000 := by
          rw [← hms, len_bs2]
          unfold mrk15
          simp [len_fld]
        clear hms hok
        go_wp2_with fail
        refine (HM1.out _).mono ?_
        rintro e w10 ⟨rfl, ht⟩
        have T10 := Lib.hid (T3.out.trans ht)
        have B10 := Lib.hid (B3.out.turn ht (fun h => h))
        obtain ⟨x0, x1⟩ := cells2b B10.out
        clear ht
        go_wp2_with fail
        refine (read_15 ms hmz _).mono ?_
        rintro e w11 ⟨t3, v3, D3, m3, e3, rfl, hc, hr, hd, ht⟩
        obtain ⟨q1, q2, q3, q4⟩ := HR.out.inj hr
        subst q1 q2 q3 q4
        have T11 := Lib.hid (T10.out.trans ht)
        have B11 := Lib.hid (B10.out.turn ht (fun h => h))
        obtain ⟨x0, x1⟩ := cells2b B11.out
        obtain ⟨A3, c3, rfl, _⟩ := id hc
        simp only [List.length_nil] at hc ⊢
        clear hc hr hd ht
        have T12 := Lib.hid (T11.out.alloc (.cells #[.int .i64 0, .slice A3 0 c3] 24))
        have B12 := Lib.hid (B11.out.alloc (.cells #[.int .i64 0, .slice A3 0 c3] 24))
        obtain ⟨x0, x1⟩ := cells2b B12.out
        have Q12 := Lib.hid (Blk.new w11 24 [.int .i64 0, .slice A3 0 c3])
        obtain ⟨u0, u1⟩ := cells2b Q12.out
        go_wp2_with fail
        refine (read_15 S hS _).mono ?_
        rintro e w20 ⟨t4, v4, D4, m4, e4, rfl, hc, hr, hd, ht⟩
        have T20 := Lib.hid (T12.out.trans ht)
        have B20 := Lib.hid (B12.out.turn ht (fun h => h))
        obtain ⟨x0, x1⟩ := cells2b B20.out
        obtain ⟨A4, c4, rfl, _⟩ := id hc
        obtain ⟨n4, hn4⟩ : ∃ k, D4.length = k := ⟨_, rfl⟩
        rw [hn4] at hc ⊢
        have C20 := Lib.hid hc
        have HN4 := Lib.hid hn4
        clear hn4 hc ht hd
        have T21 := Lib.hid (T20.out.alloc (.cells #[.int .i64 t4, .slice A4 n4 c4] 24))
        have B21 := Lib.hid (B20.out.alloc (.cells #[.int .i64 t4, .slice A4 n4 c4] 24))
        obtain ⟨x0, x1⟩ := cells2b B21.out
        have Q21 := Lib.hid (Blk.new w20 24 [.int .i64 t4, .slice A4 n4 c4])
        obtain ⟨u0, u1⟩ := cells2b Q21.out
        have C21 := Lib.hid (C20.out.still ((Turn.refl _ _).alloc (.cells #[.int .i64 t4, .slice A4 n4 c4] 24)))
        rcases hr with ⟨rfl, rfl, hby4⟩ | ⟨rfl, rfl, rfl, hok4, hmr⟩ | ⟨rfl, rfl, rfl, rfl, _, _⟩
        · have hpos : (0 : Int) < t4 := by have := (by_on hby4).1.small.2.2.1; omega
          have HB4 := Lib.hid (fun W (h : Cx W (.slice A4 n4 c4) D4) => bytes_15 t4 D4 _ W h)
          rw [hby4] at HB4
          simp only at HB4
          clear hby4
          go_wp2_with fail
          refine (mark_any15 0 _).mono ?_
          unfold mkv15
          rw [show mok15 0 = true from by decide]
          simp only [if_true]
          rintro e w22 ⟨rfl, ht⟩
          have T22 := Lib.hid (T21.out.trans ht)
          have C22 := Lib.hid (C21.out.still ht)
          obtain ⟨p0, p1⟩ := cells2b (Q21.out.turn ht (fun h => h))
          clear ht
          have hss := str_same S
          go_wp2_with fail
          refine (HB4.out _ C22.out).mono ?_
          rintro e w23 ⟨rfl, ht⟩
          have T23 := Lib.hid (T22.out.trans ht)
          clear ht
          go_wp2_with fail
          refine (lives_15 _).mono ?_
          rintro e w99 ⟨rfl, ht⟩
          have TE := Lib.hid (T23.out.trans ht)
          clear ht
          go_wp2_with fail
          go_ret
          exact ⟨rfl, TE.out⟩
        · have hpos : ¬ (0 : Int) < 0 := by decide
          have hms : (⟨(mrk15 m4).toArray⟩ : ByteArray) = S := by rw [hmr]
          have hss := str_same S
          go_wp2_with fail
          refine (mark_any15 m4 _).mono ?_
          unfold mkv15
          rw [hok4]
          simp only [if_true]
          rw [hms]
          rintro e w22 ⟨rfl, ht⟩
          have T22 := Lib.hid (T21.out.trans ht)
          obtain ⟨p0, p1⟩ := cells2b (Q21.out.turn ht (fun h => h))
          clear ht hmr hms hok4
          go_wp2_with fail
          refine (lives_15 _).mono ?_
          rintro e w99 ⟨rfl, ht⟩
          have TE := Lib.hid (T22.out.trans ht)
          clear ht
          go_wp2_with fail
          go_ret
          exact ⟨rfl, TE.out⟩
        · have h40 : n4 = 0 := HN4.out.symm
          subst h40
          go_wp2_with fail
          refine (refSame_15 0 [] _ _ _ C21.out ⟨none, 0, rfl, by simp, fun h => by simp at h⟩).mono ?_
          rintro e w22 ⟨rfl, ht⟩
          have T22 := Lib.hid (T21.out.trans ht)
          clear ht
          go_wp2_with fail
          refine (lives_15 _).mono ?_
          rintro e w99 ⟨rfl, ht⟩
          have TE := Lib.hid (T22.out.trans ht)
          clear ht
          go_wp2_with fail
          go_ret
          exact ⟨rfl, TE.out⟩
theorem batchBack_walk (t : Int) (vl : Value) (C : List Cg) (m : Int) (S : ByteArray) (w : World) (h : Cx w vl C) (_ : (Lit.int .i64 m).wf = true) (hS : S.size ≤ 140737488351232) :
    Calls Try.prog 5 #[.agg #[.int .i64 t, vl], .int .i64 m, .string S] w fun r w' => r = .returned (.bool true) ∧ Below w.heap.size w w' := by
  obtain ⟨A, c, rfl, _⟩ := id h
  exact (batchBack_of t m C A _ c S (by omega) w h).mono fun e w' ⟨he, ht⟩ => ⟨he, ht.below (Nat.le_refl _) (fun _ h => h.elim)⟩
end Go.Proofs.Ytaebhbdmmnpgeaa
