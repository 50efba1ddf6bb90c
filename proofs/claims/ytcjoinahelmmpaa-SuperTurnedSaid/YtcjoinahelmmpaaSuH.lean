/- Layer 11: the program's Save. -/
import Derived.Test.YtcjoinahelmmpaaSuG
namespace Go.Proofs.Ytcjoinahelmmpaa
open Go.RowKit
set_option linter.unusedVariables false
set_option linter.unusedSimpArgs false
set_option maxRecDepth 100000

/-- The Gen of the next one, and an error. -/
def nxt (x : Fd) : Int × Int := if x.f = 4 then (0, 0) else if x.f = 0 then (if x.s.g = 1152921504606846976 then (0, 18) else (x.s.g + 1, 0)) else (0, x.f)
def Dsk.wf (D : Dsk) (i : Int) (l : List UInt8) : Dsk × Int := if (D.write i l).2 = 0 then (D.write i l).1.flush else D.write i l
def Sup.gen (s : Sup) (g : Int) : Sup := ⟨g, s.r, s.t, s.e, s.l, s.m⟩
def Dsk.save (D : Dsk) (s : Sup) : Dsk × Sup × Int :=
  if (nxt D.find).2 = 0 then
    if rU (s.gen (nxt D.find).1) = true then
      if (D.wf ((nxt D.find).1 % 2) (putU (s.gen (nxt D.find).1))).2 = 0 then ((D.wf ((nxt D.find).1 % 2) (putU (s.gen (nxt D.find).1))).1, s.gen (nxt D.find).1, 0)
      else ((D.wf ((nxt D.find).1 % 2) (putU (s.gen (nxt D.find).1))).1, zU, (D.wf ((nxt D.find).1 % 2) (putU (s.gen (nxt D.find).1))).2)
    else (D, zU, 2)
  else (D, zU, (nxt D.find).2)
theorem Fd.upd_ok {x : Fd} (h : x.f = 0 → rU x.s = true) (k : Nat) {l : List UInt8} {o : Option Sup} (ho : readU l = o) : (x.upd k o).f = 0 → rU (x.upd k o).s = true := by
  unfold Fd.upd
  split
  · exact h
  · rename_i s
    split
    · intro _
      exact (readU_is ho).1
    · exact h
theorem fdk_ok (D : Dsk) : ∀ k, (fdk D k).f = 0 → rU (fdk D k).s = true
  | 0 => fun h => by cases h
  | k + 1 => Fd.upd_ok (fdk_ok D k) k rfl
theorem find_ok (D : Dsk) : D.find.f = 0 → rU D.find.s = true := by
  unfold Dsk.find
  split
  · intro h; cases h
  split
  · intro h; cases h
  · exact fdk_ok D 2
theorem nxt_range (D : Dsk) : 0 ≤ (nxt D.find).1 ∧ (nxt D.find).1 ≤ 1152921504606846976 := by
  unfold nxt
  split
  · simp
  split
  · rename_i h
    have := rU_yes (find_ok D h)
    split
    · simp
    · rename_i hg
      simp only
      omega
  · simp
theorem by_ownU {w : World} {S : Nat → Prop} {B : Nat} {v : Value} {l : List UInt8} (h : w.ownsRow B 5 1 v l.length (bv l)) (hS : ∀ k, S k → k < B) : By S w v l := by
  rcases row_of_own h with ⟨rfl, rfl⟩ | ⟨g, cap, rfl, hg, hr, hc⟩
  · exact ⟨none, 0, rfl, fun h => absurd h (by simp)⟩
  · refine ⟨_, cap, rfl, fun hp => ⟨_, rfl, hr.lt, fun hs => by have := hS _ hs; simp at this; omega, fun j c hj => ?_⟩⟩
    rw [show (⟨g, 0, none⟩ : Addr).add j = ⟨g, j, none⟩ from by unfold Addr.add; split <;> simp_all]
    exact hr.cell hj
theorem write_pend (D : Dsk) (i : Int) (l : List UInt8) : (D.write i l).1.pend.length ≤ D.pend.length + 1 := by
  unfold Dsk.write
  split
  · simp
  split
  · simp
  split
  · simp
  split
  · simp [(burnt_kept D).2]
  · simp [Dsk.wrote]
theorem writeU {S : Nat → Prop} {w : World} {p : Nat} {D : Dsk} (h : Dq S w p D) (i : Int) (vb : Value) (l : List UInt8) (hb : By S w vb l) (hp : D.pend.length < 900000000) :
    Calls Try.prog 55 #[.pointer (some ⟨p, 0, none⟩), .int .i64 i, vb] w fun e w' => e = .returned (.int .i64 (D.wf i l).2) ∧ ∃ S', Dq S' w' p (D.wf i l).1 ∧ Stp S w S' w' := by
  have HW := Lib.hid (write_dq h i vb l hb (by omega))
  have HP := Lib.hid (write_pend D i l)
  have HPD := Lib.hid hp
  obtain ⟨X, hX⟩ : ∃ X, D.write i l = X := ⟨_, rfl⟩
  have HWF : Hid (D.wf i l = if X.2 = 0 then X.1.flush else X) := Lib.hid (by unfold Dsk.wf; rw [hX])
  rw [hX] at HW HP
  rw [HWF.out]
  clear h hb hp hX HWF
  obtain ⟨D1, e1⟩ := X
  simp only at HW HP ⊢
  by_cases he : e1 = 0
  · subst he
    rw [if_pos rfl]
    have HF : Hid (∀ S' W, Dq S' W p D1 → Calls Try.prog 66 #[.pointer (some ⟨p, 0, none⟩)] W fun e w' => e = .returned (.int .i64 D1.flush.2) ∧ ∃ S'', Dq S'' w' p D1.flush.1 ∧ Stp S' W S'' w') := Lib.hid (fun S' W hq => flush_dq hq (by have := HP.out; have := HPD.out; omega))
    clear HP HPD
    obtain ⟨Y, hY⟩ : ∃ Y, D1.flush = Y := ⟨_, rfl⟩
    rw [hY] at HF ⊢
    clear hY
    obtain ⟨D2, e2⟩ := Y
    simp only at HF ⊢
    go_enter Try.func55, Try.ntmps55
    go_wp2_with fail
    refine HW.out.mono ?_
    rintro e w1 ⟨rfl, S1, hq, hs⟩
    have HQ := Lib.hid hq
    have HS := Lib.hid hs
    clear hq hs
    go_wp2_with fail
    refine (HF.out _ _ HQ.out).mono ?_
    rintro e w2 ⟨rfl, S2, hq, hs⟩
    have HQ2 := Lib.hid hq
    have HS2 := Lib.hid (HS.out.trans hs)
    clear hq hs
    go_wp2_with fail
    go_ret
    exact ⟨rfl, S2, HQ2.out, HS2.out⟩
  · rw [if_neg he]
    simp only
    clear HP HPD
    go_enter Try.func55, Try.ntmps55
    go_wp2_with fail
    refine HW.out.mono ?_
    rintro e w1 ⟨rfl, S1, hq, hs⟩
    have HQ := Lib.hid hq
    have HS := Lib.hid hs
    clear hq hs
    go_wp2_with fail
    go_ret
    exact ⟨rfl, S1, HQ.out, HS.out⟩
theorem next_of {v : Value} (x : Fd) (hx : x.f = 0 → 0 ≤ x.s.g ∧ x.s.g ≤ 1152921504606846976) (w : World) (HF : Hid (Calls Try.prog 25 #[v] w fun r w' => r = .returned (fdv x) ∧ Turn (fun _ => False) w w')) :
    Calls Try.prog 54 #[v] w fun r w' => r = .returned (.tuple #[.int .i64 (nxt x).1, .int .i64 (nxt x).2]) ∧ Turn (fun _ => False) w w' := by
  obtain ⟨⟨g, r, t, e, l, m⟩, aa, f⟩ := x
  unfold fdv uv at HF
  simp only at hx HF
  have key : (f = 4 ∧ nxt ⟨⟨g, r, t, e, l, m⟩, aa, f⟩ = (0, 0)) ∨ (¬ f = 4 ∧ ¬ f = 0 ∧ nxt ⟨⟨g, r, t, e, l, m⟩, aa, f⟩ = (0, f)) ∨ (f = 0 ∧ g = 1152921504606846976 ∧ nxt ⟨⟨g, r, t, e, l, m⟩, aa, f⟩ = (0, 18)) ∨ (f = 0 ∧ (0 ≤ g ∧ g < 1152921504606846976 ∧ ¬ g = 1152921504606846976) ∧ nxt ⟨⟨g, r, t, e, l, m⟩, aa, f⟩ = (g + 1, 0)) := by
    unfold nxt
    simp only
    by_cases h4 : f = 4
    · rw [if_pos h4]; exact .inl ⟨h4, rfl⟩
    rw [if_neg h4]
    by_cases h0 : f = 0
    · rw [if_pos h0]
      have := hx h0
      by_cases hg : g = 1152921504606846976
      · rw [if_pos hg]; exact .inr (.inr (.inl ⟨h0, hg, rfl⟩))
      · rw [if_neg hg]; exact .inr (.inr (.inr ⟨h0, by omega, rfl⟩))
    · rw [if_neg h0]; exact .inr (.inl ⟨h4, h0, rfl⟩)
  obtain ⟨N, hN⟩ : ∃ N, nxt ⟨⟨g, r, t, e, l, m⟩, aa, f⟩ = N := ⟨_, rfl⟩
  rw [hN] at key ⊢
  clear hN hx
  rcases key with ⟨rfl, rfl⟩ | ⟨h4, h0, rfl⟩ | ⟨rfl, rfl, rfl⟩ | ⟨rfl, ⟨h1, h2, h3⟩, rfl⟩
  all_goals
    go_enter Try.func54, Try.ntmps54
    go_wp2_with fail
    refine HF.out.mono ?_
    rintro e1 w1 ⟨rfl, ht⟩
    have HT := Lib.hid ht
    clear ht
    go_wp2_with fail
    go_ret2
    exact ⟨rfl, HT.out.alloc _⟩
theorem next_dq {S : Nat → Prop} {w : World} {p : Nat} {D : Dsk} (h : Dq S w p D) :
    Calls Try.prog 54 #[.pointer (some ⟨p, 0, none⟩)] w fun r w' => r = .returned (.tuple #[.int .i64 (nxt D.find).1, .int .i64 (nxt D.find).2]) ∧ Turn (fun _ => False) w w' :=
  next_of D.find (fun h0 => by have := rU_yes (find_ok D h0); omega) w (Lib.hid (find_dq h))
/-- Save of what next refuses. -/
theorem save_no {v : Value} (s : Sup) (g e : Int) (he : ¬ e = 0) (w : World) (HN : Hid (∀ W, Turn (fun _ => False) w W → Calls Try.prog 54 #[v] W fun r w' => r = .returned (.tuple #[.int .i64 g, .int .i64 e]) ∧ Turn (fun _ => False) W w')) :
    Calls Try.prog 28 #[v, uv s] w fun r w' => r = .returned (.tuple #[uv zU, .int .i64 e]) ∧ Turn (fun _ => False) w w' := by
  obtain ⟨sg, sr, st, se, sl, sm⟩ := s
  unfold uv zU
  simp only
  have K0 := Lib.hid (Blk.new_ (w.alloc (.cells #[.int .i64 sg, .int .i64 sr, .int .i64 st, .int .i64 se, .int .i64 sl, .int .i64 sm] 23)) 23 [.int .i64 0, .int .i64 0, .int .i64 0, .int .i64 0, .int .i64 0, .int .i64 0] (k := w.heap.size + 1) (by simp))
  have T0 := Lib.hid (((Turn.refl (fun _ => False) w).alloc (.cells #[.int .i64 sg, .int .i64 sr, .int .i64 st, .int .i64 se, .int .i64 sl, .int .i64 sm] 23)).alloc (.cells #[.int .i64 0, .int .i64 0, .int .i64 0, .int .i64 0, .int .i64 0, .int .i64 0] 23))
  go_enter Try.func28, Try.ntmps28
  go_wp2_with fail
  refine (HN.out _ T0.out).mono ?_
  rintro e1 w1 ⟨rfl, ht⟩
  have K1 := Lib.hid (K0.out.turn ht (fun h => h))
  have T1 := Lib.hid (T0.out.trans ht)
  clear ht
  obtain ⟨⟨q0, q1, q2, q3, q4, q5⟩, k0, k1_, k2, k3, k4, k5⟩ := blk6 K1.out
  go_wp2_with fail
  rw [put6_eq]
  have hf := K1.out.put6 (a' := .int .i64 0) (b' := .int .i64 0) (c' := .int .i64 0) (d' := .int .i64 0) (e' := .int .i64 0) (f' := .int .i64 0)
  have hT := T1.out.put6 (g := w.heap.size + 1) (.inr (Nat.le_succ _)) (.int .i64 0) (.int .i64 0) (.int .i64 0) (.int .i64 0) (.int .i64 0) (.int .i64 0)
  generalize put6 w1 (w.heap.size + 1) (.int .i64 0) (.int .i64 0) (.int .i64 0) (.int .i64 0) (.int .i64 0) (.int .i64 0) = WF at *
  clear q0 q1 q2 q3 q4 q5 k0 k1_ k2 k3 k4 k5
  obtain ⟨e0, e1, e2, e3, e4, e5⟩ := (blk6 hf).1
  exact bodyPost_ret (v := .tuple #[.agg #[.int .i64 0, .int .i64 0, .int .i64 0, .int .i64 0, .int .i64 0, .int .i64 0], .int .i64 e]) (by simp [results, Try.results28, go_sem, e0, e1, e2, e3, e4, e5]) rfl ⟨rfl, hT⟩
set_option maxHeartbeats 4000000 in
theorem save_yes {S : Nat → Prop} {w : World} {p : Nat} {D : Dsk} (h : Dq S w p D) (s : Sup) (g : Int) (h0 : 0 ≤ g) (h1 : g ≤ 1152921504606846976) (hn : nxt D.find = (g, 0)) (hp : D.pend.length < 900000000) :
    Calls Try.prog 28 #[.pointer (some ⟨p, 0, none⟩), uv s] w fun r w' => r = .returned (.tuple #[uv (D.save s).2.1, .int .i64 (D.save s).2.2]) ∧ ∃ S', Dq S' w' p (D.save s).1 ∧ Stp S w S' w' := by
  have H := Lib.hid h
  have HP := Lib.hid hp
  have HN : Hid (∀ W, Turn (fun _ => False) w W → Calls Try.prog 54 #[.pointer (some ⟨p, 0, none⟩)] W fun r w' => r = .returned (.tuple #[.int .i64 g, .int .i64 0]) ∧ Turn (fun _ => False) W w') := Lib.hid (fun W ht => by have := next_dq (h.still ht); rw [hn] at this; exact this)
  have HSV : Hid (D.save s = if rU (s.gen g) = true then (if (D.wf (g % 2) (putU (s.gen g))).2 = 0 then ((D.wf (g % 2) (putU (s.gen g))).1, s.gen g, 0) else ((D.wf (g % 2) (putU (s.gen g))).1, zU, (D.wf (g % 2) (putU (s.gen g))).2)) else (D, zU, 2)) := Lib.hid (by unfold Dsk.save; rw [hn, if_pos rfl])
  have HSL : Hid (∀ k, S k → k < w.heap.size) := Lib.hid h.lt
  obtain ⟨sg, sr, st, se, sl, sm⟩ := s
  have hsg : Sup.gen ⟨sg, sr, st, se, sl, sm⟩ g = ⟨g, sr, st, se, sl, sm⟩ := rfl
  rw [hsg] at HSV
  obtain ⟨SV, hSV⟩ : ∃ SV, D.save ⟨sg, sr, st, se, sl, sm⟩ = SV := ⟨_, rfl⟩
  rw [hSV] at HSV ⊢
  have B0 := Lib.hid ((Blk.new w 23 [.int .i64 sg, .int .i64 sr, .int .i64 st, .int .i64 se, .int .i64 sl, .int .i64 sm]).alloc (.cells #[.int .i64 0, .int .i64 0, .int .i64 0, .int .i64 0, .int .i64 0, .int .i64 0] 23))
  have K0 := Lib.hid (Blk.new_ (w.alloc (.cells #[.int .i64 sg, .int .i64 sr, .int .i64 st, .int .i64 se, .int .i64 sl, .int .i64 sm] 23)) 23 [.int .i64 0, .int .i64 0, .int .i64 0, .int .i64 0, .int .i64 0, .int .i64 0] (k := w.heap.size + 1) (by simp))
  have T0 := Lib.hid (((Turn.refl (fun _ => False) w).alloc (.cells #[.int .i64 sg, .int .i64 sr, .int .i64 st, .int .i64 se, .int .i64 sl, .int .i64 sm] 23)).alloc (.cells #[.int .i64 0, .int .i64 0, .int .i64 0, .int .i64 0, .int .i64 0, .int .i64 0] 23))
  have HB2 := Lib.hid (bytesU_bad ⟨g, sr, st, se, sl, sm⟩)
  have HB0 := Lib.hid (bytesU_ok ⟨g, sr, st, se, sl, sm⟩)
  unfold uv at *
  simp only at HB2 HB0
  clear h hn hp hsg hSV
  have key : ∀ b, rU ⟨g, sr, st, se, sl, sm⟩ = b → (b = false ∧ rU ⟨g, sr, st, se, sl, sm⟩ = false) ∨ (b = true ∧ rU ⟨g, sr, st, se, sl, sm⟩ = true) := fun b hb => by cases b; exact .inl ⟨rfl, hb⟩; exact .inr ⟨rfl, hb⟩
  rcases key _ rfl with ⟨_, hr⟩ | ⟨_, hr⟩
  · have HB := Lib.hid (HB2.out hr)
    have HE : Hid (SV = (D, zU, 2)) := Lib.hid (by rw [HSV.out, if_neg (by rw [hr]; simp)])
    clear HB0 HB2 hr HSV key
    obtain rfl := HE.out
    unfold zU
    simp only
    go_enter Try.func28, Try.ntmps28
    go_wp2_with fail
    refine (HN.out _ T0.out).mono ?_
    rintro e1 w1 ⟨rfl, ht⟩
    have B1 := Lib.hid (B0.out.turn ht (fun h => h))
    have K1 := Lib.hid (K0.out.turn ht (fun h => h))
    have T1 := Lib.hid (T0.out.trans ht)
    clear ht
    obtain ⟨⟨q0, q1, q2, q3, q4, q5⟩, k0, k1_, k2, k3, k4, k5⟩ := blk6 B1.out
    go_wp2_with fail
    have B2 := Lib.hid (B1.out.put 0 (.int .i64 g))
    simp only [List.set_cons_zero] at B2
    have K2 := Lib.hid (K1.out.far (p := ⟨w.heap.size, 0, none⟩) (by simp) (.int .i64 g))
    have T2 := Lib.hid (T1.out.setCell (p := ⟨w.heap.size, 0, none⟩) (.inr (Nat.le_refl _)) (.int .i64 g))
    generalize w1.setCell ⟨w.heap.size, 0, none⟩ (.int .i64 g) = w2 at *
    clear q0 q1 q2 q3 q4 q5 k0 k1_ k2 k3 k4 k5
    refine (HB.out _).mono ?_
    rintro e1 w3 ⟨rfl, ht⟩
    have K3 := Lib.hid (K2.out.turn ht (fun h => h))
    have T3 := Lib.hid (T2.out.trans ht)
    clear ht
    obtain ⟨⟨q0, q1, q2, q3, q4, q5⟩, k0, k1_, k2, k3, k4, k5⟩ := blk6 K3.out
    go_wp2_with fail
    rw [put6_eq]
    have hf := K3.out.put6 (a' := .int .i64 0) (b' := .int .i64 0) (c' := .int .i64 0) (d' := .int .i64 0) (e' := .int .i64 0) (f' := .int .i64 0)
    have hT := T3.out.put6 (g := w.heap.size + 1) (.inr (Nat.le_succ _)) (.int .i64 0) (.int .i64 0) (.int .i64 0) (.int .i64 0) (.int .i64 0) (.int .i64 0)
    generalize put6 w3 (w.heap.size + 1) (.int .i64 0) (.int .i64 0) (.int .i64 0) (.int .i64 0) (.int .i64 0) (.int .i64 0) = WF at *
    clear q0 q1 q2 q3 q4 q5 k0 k1_ k2 k3 k4 k5
    obtain ⟨e0, e1, e2, e3, e4, e5⟩ := (blk6 hf).1
    exact bodyPost_ret (v := .tuple #[.agg #[.int .i64 0, .int .i64 0, .int .i64 0, .int .i64 0, .int .i64 0, .int .i64 0], .int .i64 2]) (by simp [results, Try.results28, go_sem, e0, e1, e2, e3, e4, e5]) rfl ⟨rfl, S, H.out.still hT, Stp.quiet hT⟩
  · have HB := Lib.hid (HB0.out hr)
    have HE : Hid (SV = if (D.wf (g % 2) (putU ⟨g, sr, st, se, sl, sm⟩)).2 = 0 then ((D.wf (g % 2) (putU ⟨g, sr, st, se, sl, sm⟩)).1, ⟨g, sr, st, se, sl, sm⟩, 0) else ((D.wf (g % 2) (putU ⟨g, sr, st, se, sl, sm⟩)).1, zU, (D.wf (g % 2) (putU ⟨g, sr, st, se, sl, sm⟩)).2)) := Lib.hid (by rw [HSV.out, if_pos hr])
    have HLP := Lib.hid (len_putU ⟨g, sr, st, se, sl, sm⟩)
    obtain ⟨X, hX⟩ : ∃ X, D.wf (g % 2) (putU ⟨g, sr, st, se, sl, sm⟩) = X := ⟨_, rfl⟩
    rw [hX] at HE
    have HW : Hid (∀ W v, Dq S W p D → W.ownsRow w.heap.size 5 1 v 128 (bv (putU ⟨g, sr, st, se, sl, sm⟩)) → Calls Try.prog 55 #[.pointer (some ⟨p, 0, none⟩), .int .i64 (g % 2), v] W fun e w' => e = .returned (.int .i64 X.2) ∧ ∃ S', Dq S' w' p X.1 ∧ Stp S W S' w') := Lib.hid (fun W v hq ho => by
      have := writeU hq (g % 2) v (putU ⟨g, sr, st, se, sl, sm⟩) (by_ownU (by rw [HLP.out]; exact ho) HSL.out) HP.out
      rw [hX] at this; exact this)
    obtain ⟨D2, er⟩ := X
    simp only at HW HE
    obtain ⟨PU, hPU⟩ : ∃ PU, putU ⟨g, sr, st, se, sl, sm⟩ = PU := ⟨_, rfl⟩
    rw [hPU] at HB HW
    clear HB0 HB2 hr HSV key hX hPU HLP
    have key : (er = 0 ∧ SV = (D2, ⟨g, sr, st, se, sl, sm⟩, 0)) ∨ (¬ er = 0 ∧ SV = (D2, zU, er)) := by
      by_cases he : er = 0
      · exact .inl ⟨he, by rw [HE.out, if_pos he]⟩
      · exact .inr ⟨he, by rw [HE.out, if_neg he]⟩
    clear HE
    rcases key with ⟨rfl, rfl⟩ | ⟨he, rfl⟩
    all_goals
      (try unfold zU)
      simp only
      go_enter Try.func28, Try.ntmps28
      go_wp2_with fail
      refine (HN.out _ T0.out).mono ?_
      rintro e1 w1 ⟨rfl, ht⟩
      have B1 := Lib.hid (B0.out.turn ht (fun h => h))
      have K1 := Lib.hid (K0.out.turn ht (fun h => h))
      have T1 := Lib.hid (T0.out.trans ht)
      clear ht
      obtain ⟨⟨q0, q1, q2, q3, q4, q5⟩, k0, k1_, k2, k3, k4, k5⟩ := blk6 B1.out
      go_wp2_with fail
      have B2 := Lib.hid (B1.out.put 0 (.int .i64 g))
      simp only [List.set_cons_zero] at B2
      have K2 := Lib.hid (K1.out.far (p := ⟨w.heap.size, 0, none⟩) (by simp) (.int .i64 g))
      have T2 := Lib.hid (T1.out.setCell (p := ⟨w.heap.size, 0, none⟩) (.inr (Nat.le_refl _)) (.int .i64 g))
      generalize w1.setCell ⟨w.heap.size, 0, none⟩ (.int .i64 g) = w2 at *
      clear q0 q1 q2 q3 q4 q5 k0 k1_ k2 k3 k4 k5
      refine (HB.out _).mono ?_
      rintro e1 w3 ⟨v3, rfl, ho, hb⟩
      have ht := Turn.of_below (S := fun _ => False) hb (fun k h1 h2 => by omega)
      have O3 := Lib.hid (own_low5 (B' := w.heap.size) ho T2.out.size)
      have B3 := Lib.hid (B2.out.turn ht (fun h => h))
      have K3 := Lib.hid (K2.out.turn ht (fun h => h))
      have T3 := Lib.hid (T2.out.trans ht)
      clear ht ho hb
      go_wp2_with fail
      refine (HW.out _ _ (H.out.still T3.out) O3.out).mono ?_
      rintro e1 w4 ⟨rfl, S4, hq, hs⟩
      have Q4 := Lib.hid hq
      have hz3 := K3.out.lt
      have HS4 := Lib.hid hs
      have hnB : ¬ S w.heap.size := fun hk => by have := HSL.out _ hk; omega
      have hnK : ¬ S (w.heap.size + 1) := fun hk => by have := HSL.out _ hk; omega
      have B4 := Lib.hid (B3.out.turn hs.1 hnB)
      have K4 := Lib.hid (K3.out.turn hs.1 hnK)
      have T4 := Lib.hid ((Stp.quiet T3.out).trans hs)
      have HNK : Hid (¬ S4 (w.heap.size + 1)) := Lib.hid (fun hk => by rcases hs.2 _ hk with h1 | h1; exact hnK h1; omega)
      clear hq hs hnB hnK
      obtain ⟨⟨q0, q1, q2, q3, q4, q5⟩, k0, k1_, k2, k3, k4, k5⟩ := blk6 K4.out
      obtain ⟨p0, p1, p2, p3, p4, p5⟩ := (blk6 B4.out).1
      go_wp2_with fail
      clear p0 p1 p2 p3 p4 p5
    · rw [put6_eq]
      have hf := K4.out.put6 (a' := .int .i64 g) (b' := .int .i64 sr) (c' := .int .i64 st) (d' := .int .i64 se) (e' := .int .i64 sl) (f' := .int .i64 sm)
      have hS := (Turn.refl (fun k => k = w.heap.size + 1) w4).put6 (g := w.heap.size + 1) (.inl rfl) (.int .i64 g) (.int .i64 sr) (.int .i64 st) (.int .i64 se) (.int .i64 sl) (.int .i64 sm)
      have hT := T4.out.1.put6 (g := w.heap.size + 1) (.inr (Nat.le_succ _)) (.int .i64 g) (.int .i64 sr) (.int .i64 st) (.int .i64 se) (.int .i64 sl) (.int .i64 sm)
      generalize put6 w4 (w.heap.size + 1) (.int .i64 g) (.int .i64 sr) (.int .i64 st) (.int .i64 se) (.int .i64 sl) (.int .i64 sm) = WF at *
      clear q0 q1 q2 q3 q4 q5 k0 k1_ k2 k3 k4 k5
      obtain ⟨e0, e1, e2, e3, e4, e5⟩ := (blk6 hf).1
      exact bodyPost_ret (v := .tuple #[.agg #[.int .i64 g, .int .i64 sr, .int .i64 st, .int .i64 se, .int .i64 sl, .int .i64 sm], .int .i64 0]) (by simp [results, Try.results28, go_sem, e0, e1, e2, e3, e4, e5]) rfl ⟨rfl, S4, Q4.out.turn hS (fun k hk e => HNK.out (e ▸ hk)), hT, T4.out.2⟩
    · rw [put6_eq]
      have hf := K4.out.put6 (a' := .int .i64 0) (b' := .int .i64 0) (c' := .int .i64 0) (d' := .int .i64 0) (e' := .int .i64 0) (f' := .int .i64 0)
      have hS := (Turn.refl (fun k => k = w.heap.size + 1) w4).put6 (g := w.heap.size + 1) (.inl rfl) (.int .i64 0) (.int .i64 0) (.int .i64 0) (.int .i64 0) (.int .i64 0) (.int .i64 0)
      have hT := T4.out.1.put6 (g := w.heap.size + 1) (.inr (Nat.le_succ _)) (.int .i64 0) (.int .i64 0) (.int .i64 0) (.int .i64 0) (.int .i64 0) (.int .i64 0)
      generalize put6 w4 (w.heap.size + 1) (.int .i64 0) (.int .i64 0) (.int .i64 0) (.int .i64 0) (.int .i64 0) (.int .i64 0) = WF at *
      clear q0 q1 q2 q3 q4 q5 k0 k1_ k2 k3 k4 k5
      obtain ⟨e0, e1, e2, e3, e4, e5⟩ := (blk6 hf).1
      exact bodyPost_ret (v := .tuple #[.agg #[.int .i64 0, .int .i64 0, .int .i64 0, .int .i64 0, .int .i64 0, .int .i64 0], .int .i64 er]) (by simp [results, Try.results28, go_sem, e0, e1, e2, e3, e4, e5]) rfl ⟨rfl, S4, Q4.out.turn hS (fun k hk e => HNK.out (e ▸ hk)), hT, T4.out.2⟩
theorem save_dq {S : Nat → Prop} {w : World} {p : Nat} {D : Dsk} (h : Dq S w p D) (s : Sup) (hp : D.pend.length < 900000000) :
    Calls Try.prog 28 #[.pointer (some ⟨p, 0, none⟩), uv s] w fun r w' => r = .returned (.tuple #[uv (D.save s).2.1, .int .i64 (D.save s).2.2]) ∧ ∃ S', Dq S' w' p (D.save s).1 ∧ Stp S w S' w' := by
  have hr := nxt_range D
  by_cases he : (nxt D.find).2 = 0
  · exact save_yes h s (nxt D.find).1 hr.1 hr.2 (Prod.ext rfl he) hp
  · have := save_no s (nxt D.find).1 (nxt D.find).2 he w (Lib.hid (fun W ht => next_dq (h.still ht)))
    have hs : D.save s = (D, zU, (nxt D.find).2) := by unfold Dsk.save; rw [if_neg he]
    rw [hs]
    exact this.mono (fun r w' ⟨h1, h2⟩ => ⟨h1, S, h.still h2, Stp.quiet h2⟩)
theorem save_nod {w : World} {v : Value} (s : Sup) (h : ∀ W, Turn (fun _ => False) w W → Nod W v) :
    Calls Try.prog 28 #[v, uv s] w fun r w' => r = .returned (.tuple #[uv zU, .int .i64 1]) ∧ Turn (fun _ => False) w w' :=
  save_no s 0 1 (by decide) w (Lib.hid (fun W ht => next_of ⟨zU, 0, 1⟩ (fun h => by cases h) W (Lib.hid (find_nod (fun W' ht' => h W' (ht.trans ht'))))))
end Go.Proofs.Ytcjoinahelmmpaa
