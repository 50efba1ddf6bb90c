/- Layer 11: the program's Find. -/
import Derived.Test.YtcjoinahelmmpaaSuF
import Derived.Test.YtcjoinahelmmpaaBlkK
namespace Go.Proofs.Ytcjoinahelmmpaa
open Go.RowKit
set_option linter.unusedVariables false
set_option linter.unusedSimpArgs false
set_option maxRecDepth 100000

def zU : Sup := ⟨0, 0, 0, 0, 0, 0⟩
/-- What is found so far, its place, and whether anything is. -/
structure Fd where
  s : Sup
  at_ : Int
  f : Int
deriving DecidableEq
def Fd.upd (x : Fd) (k : Nat) (o : Option Sup) : Fd := match o with
  | none => x
  | some s => if x.f = 4 ∨ x.s.g < s.g then ⟨s, k, 0⟩ else x
def fdk (D : Dsk) : Nat → Fd
  | 0 => ⟨zU, 0, 4⟩
  | k + 1 => (fdk D k).upd k (readU (D.has k))
def Dsk.find (D : Dsk) : Fd := if D.dead then ⟨zU, 0, 20⟩ else if D.kept.length < 2 then ⟨zU, 0, 6⟩ else fdk D 2
theorem Fd.upd_f {x : Fd} (h : x.f = 0 ∨ x.f = 4) (k : Nat) (o : Option Sup) : (x.upd k o).f = 0 ∨ (x.upd k o).f = 4 := by
  unfold Fd.upd
  split
  · exact h
  · split
    · exact .inl rfl
    · exact h
theorem fdk_f (D : Dsk) : ∀ k, (fdk D k).f = 0 ∨ (fdk D k).f = 4
  | 0 => .inr rfl
  | k + 1 => Fd.upd_f (fdk_f D k) k _
def cU (s : Sup) : List Value := [.int .i64 s.g, .int .i64 s.r, .int .i64 s.t, .int .i64 s.e, .int .i64 s.l, .int .i64 s.m]
/-- What Find answers. -/
def fdv (x : Fd) : Value := .tuple #[uv x.s, .int .i64 x.at_, .int .i64 x.f]
theorem sl_blkU {w : World} {g : Nat} {t : TypeId} {l : List UInt8} (h : Blk w g t (bv l)) (hl : l.length = 128) : Sl w w.heap.size (.slice (some ⟨g, 0, none⟩) 128 128) l := by
  have := slU h 0 128 128 (by omega) (by decide) (by decide) w.heap.size h.lt
  rwa [List.drop_zero, List.take_of_length_le (by omega)] at this
theorem find_bad {v : Value} (e : Int) (he : ¬ e = 0) (w : World) (HR : Hid (∀ W, Turn (fun _ => False) w W → Calls Try.prog 51 #[v, .int .i64 0] W fun r w' => r = .returned (.tuple #[.slice none 0 0, .int .i64 e]) ∧ W = w')) :
    Calls Try.prog 25 #[v] w fun r w' => r = .returned (fdv ⟨zU, 0, e⟩) ∧ Turn (fun _ => False) w w' := by
  have HT : Hid (Turn (fun _ => False) w ((w.alloc (.cells #[.int .i64 0, .int .i64 0, .int .i64 0, .int .i64 0, .int .i64 0, .int .i64 0] 23)).alloc (.cells #[.int .i64 0, .int .i64 0, .int .i64 0, .int .i64 0, .int .i64 0, .int .i64 0] 23))) := Lib.hid (((Turn.refl _ _).alloc _).alloc _)
  have K0 := Lib.hid ((Blk.new w 23 [.int .i64 0, .int .i64 0, .int .i64 0, .int .i64 0, .int .i64 0, .int .i64 0]).alloc (.cells #[.int .i64 0, .int .i64 0, .int .i64 0, .int .i64 0, .int .i64 0, .int .i64 0] 23))
  go_enter Try.func25, Try.ntmps25
  go_wp2_with fail
  go_loopw [12] (fun i W => i = .int .i64 0 ∧ W = ((w.alloc (.cells #[.int .i64 0, .int .i64 0, .int .i64 0, .int .i64 0, .int .i64 0, .int .i64 0] 23)).alloc (.cells #[.int .i64 0, .int .i64 0, .int .i64 0, .int .i64 0, .int .i64 0, .int .i64 0] 23))) (fun i _ => (2 - intOf i).toNat)
  case atStart => exact ⟨rfl, rfl⟩
  case round =>
    obtain ⟨rfl, hW⟩ := hrel
    rw [← hW] at HT K0
    clear hW
    obtain ⟨⟨q0, q1, q2, q3, q4, q5⟩, k0, k1_, k2, k3, k4, k5⟩ := blk6 K0.out
    go_wp2_with (go_at_call 51; (with_reducible refine (HR.out _ HT.out).mono ?_); rintro r w' ⟨rfl, rfl⟩)
    rw [put6_eq]
    have hf := K0.out.put6 (a' := .int .i64 0) (b' := .int .i64 0) (c' := .int .i64 0) (d' := .int .i64 0) (e' := .int .i64 0) (f' := .int .i64 0)
    have hT := HT.out.put6 (g := w.heap.size) (.inr (Nat.le_refl _)) (.int .i64 0) (.int .i64 0) (.int .i64 0) (.int .i64 0) (.int .i64 0) (.int .i64 0)
    generalize put6 wr w.heap.size (.int .i64 0) (.int .i64 0) (.int .i64 0) (.int .i64 0) (.int .i64 0) (.int .i64 0) = WF at *
    clear q0 q1 q2 q3 q4 q5 k0 k1_ k2 k3 k4 k5
    obtain ⟨e0, e1, e2, e3, e4, e5⟩ := (blk6 hf).1
    exact bodyPost_ret (v := .tuple #[.agg #[.int .i64 0, .int .i64 0, .int .i64 0, .int .i64 0, .int .i64 0, .int .i64 0], .int .i64 0, .int .i64 e]) (by simp [results, Try.results25, go_sem, e0, e1, e2, e3, e4, e5]) rfl ⟨rfl, hT⟩
/-- The state at the head of a round. -/
structure FdR (w : World) (D : Dsk) (k : Nat) (W : World) : Prop where
  t : Turn (fun _ => False) w W
  res : Blk W w.heap.size 23 [.int .i64 0, .int .i64 0, .int .i64 0, .int .i64 0, .int .i64 0, .int .i64 0]
  lat : Blk W (w.heap.size + 1) 23 (cU (fdk D k).s)
set_option maxHeartbeats 4000000 in
theorem find_in {S : Nat → Prop} {w : World} {p : Nat} {D : Dsk} (h : Dq S w p D) (hd : D.dead = false) :
    Calls Try.prog 25 #[.pointer (some ⟨p, 0, none⟩)] w fun r w' => r = .returned (fdv D.find) ∧ Turn (fun _ => False) w w' := by
  have H := Lib.hid h
  have HD := Lib.hid hd
  have hn0 : 0 < D.kept.length := h.1.pos
  have HL : Hid (∀ i, i < D.kept.length → (D.has i).length = 128) := Lib.hid (fun i hi => h.1.has_len hi)
  obtain ⟨n, hn⟩ : ∃ n, D.kept.length = n := ⟨_, rfl⟩
  have HN := Lib.hid hn
  rw [hn] at hn0 HL
  clear h hd hn
  go_enter Try.func25, Try.ntmps25
  go_wp2_with fail
  go_loopw [6, 7, 12] (fun a f i W => ∃ k : Nat, k ≤ 2 ∧ k ≤ n ∧ i = .int .i64 k ∧ a = .int .i64 (fdk D k).at_ ∧ f = .int .i64 (fdk D k).f ∧ FdR w D k W) (fun _ _ i _ => (2 - intOf i).toNat)
  case atStart => exact ⟨0, by omega, by omega, rfl, rfl, rfl, ⟨((Turn.refl _ _).alloc _).alloc _, (Blk.new w _ _).alloc _, Blk.new_ _ _ _ (by simp)⟩⟩
  case round =>
    obtain ⟨k, hk2, hkn, rfl, rfl, rfl, hR⟩ := hrel
    have HR := Lib.hid hR
    have HF := Lib.hid (fdk_f D k)
    clear hR
    obtain ⟨X, hX⟩ : ∃ X, fdk D k = X := ⟨_, rfl⟩
    have HNX : Hid (fdk D (k + 1) = X.upd k (readU (D.has k))) := Lib.hid (by rw [← hX]; rfl)
    have HX := Lib.hid hX
    have HT := Lib.hid HR.out.t
    have K0 := Lib.hid HR.out.res
    have B0 := Lib.hid HR.out.lat
    rw [hX] at HF B0 ⊢
    clear hX
    obtain ⟨⟨g, r, t, e, l, m⟩, aa, f⟩ := X
    unfold cU at B0
    simp only at HF B0 ⊢
    have hz := B0.out.lt
    by_cases hk : k < 2
    · have hk' : (k : Int) < 2 := by omega
      have hk0 : (0 : Int) ≤ (k : Int) := by omega
      by_cases hki : k < n
      · have RD := Lib.hid (read_dq (H.out.still HT.out) k (by rw [HN.out]; exact hki) HD.out)
        have HRU : Hid (∀ W, Blk W wr.heap.size 95 (bv (D.has k)) → Calls Try.prog 15 #[.slice (some ⟨wr.heap.size, 0, none⟩) 128 128] W fun e w' => e = .returned (rdU (readU (D.has k))) ∧ Turn (fun _ => False) W w') := Lib.hid (fun W hb => readU_any _ _ W (sl_blkU hb (HL.out k hki)))
        obtain ⟨o, ho⟩ : ∃ o, readU (D.has k) = o := ⟨_, rfl⟩
        rw [ho] at HRU HNX
        clear ho
        cases o with
        | none =>
          unfold rdU at HRU
          simp only at HRU
          go_wp2_with (first
            | (go_at_call 51; (with_reducible refine RD.out.mono ?_); rintro e1 w1 ⟨rfl, hb, ht⟩; have Q1 := Lib.hid hb; have T1 := Lib.hid ht; clear hb ht)
            | (go_at_call 15; (with_reducible refine (HRU.out _ Q1.out).mono ?_); rintro e2 w2 ⟨rfl, ht⟩; have T2 := Lib.hid (T1.out.trans ht); clear ht))
          go_roundw
          case rel => exact ⟨k + 1, by omega, by omega, by go_num, by rw [HNX.out]; rfl, by rw [HNX.out]; rfl, ⟨(HT.out.trans T2.out).alloc _, (K0.out.turn T2.out (fun h => h)).alloc _, by rw [HNX.out]; exact (B0.out.turn T2.out (fun h => h)).alloc _⟩⟩
          case measure => simp [intOf]; omega
        | some s =>
          obtain ⟨g', r', t', e', l', m'⟩ := s
          unfold rdU uv at HRU
          simp only at HRU
          rcases HF.out with rfl | rfl
          · by_cases hgg : g < g'
            · have HU : Hid (fdk D (k + 1) = ⟨⟨g', r', t', e', l', m'⟩, k, 0⟩) := Lib.hid (by rw [HNX.out]; exact if_pos (Or.inr hgg))
              go_wp2_with (first
                | (go_at_call 51; (with_reducible refine RD.out.mono ?_); rintro e1 w1 ⟨rfl, hb, ht⟩; have Q1 := Lib.hid hb; have T1 := Lib.hid ht; clear hb ht)
                | (go_at_call 15; (with_reducible refine (HRU.out _ Q1.out).mono ?_); rintro e2 w2 ⟨rfl, ht⟩; have T2 := Lib.hid (T1.out.trans ht); clear ht; have B2 := Lib.hid (B0.out.turn T2.out (fun h => h)); obtain ⟨⟨q0, q1, q2, q3, q4, q5⟩, k0, k1_, k2, k3, k4, k5⟩ := blk6 B2.out; have hz2 : w.heap.size + 1 < w2.heap.size := B2.out.lt))
              go_roundw
              case rel => exact ⟨k + 1, by omega, by omega, by go_num, by rw [HU.out], by rw [HU.out], ⟨((HT.out.trans T2.out).put6 (.inr (by omega)) _ _ _ _ _ _).alloc _, ((K0.out.turn T2.out (fun h => h)).far6 (by omega) _ _ _ _ _ _).alloc _, by rw [HU.out]; exact B2.out.put6.alloc _⟩⟩
              case measure => simp [intOf]; omega
            · have HU : Hid (fdk D (k + 1) = ⟨⟨g, r, t, e, l, m⟩, aa, 0⟩) := Lib.hid (by rw [HNX.out]; exact if_neg (fun h => h.elim (fun h => by cases h) hgg))
              have hg2 : g' ≤ g := by omega
              have hg3 : decide (g < g') = false := decide_eq_false hgg
              go_wp2_with (first
              | (go_at_call 51; (with_reducible refine RD.out.mono ?_); rintro e1 w1 ⟨rfl, hb, ht⟩; have Q1 := Lib.hid hb; have T1 := Lib.hid ht; clear hb ht)
              | (go_at_call 15; (with_reducible refine (HRU.out _ Q1.out).mono ?_); rintro e2 w2 ⟨rfl, ht⟩; have T2 := Lib.hid (T1.out.trans ht); clear ht; have B2 := Lib.hid (B0.out.turn T2.out (fun h => h)); obtain ⟨⟨q0, q1, q2, q3, q4, q5⟩, k0, k1_, k2, k3, k4, k5⟩ := blk6 B2.out; have hz2 : w.heap.size + 1 < w2.heap.size := B2.out.lt))
              go_roundw
              case rel => exact ⟨k + 1, by omega, by omega, by go_num, by rw [HU.out], by rw [HU.out], ⟨(HT.out.trans T2.out).alloc _, (K0.out.turn T2.out (fun h => h)).alloc _, by rw [HU.out]; exact B2.out.alloc _⟩⟩
              case measure => simp [intOf]; omega
          · have HU : Hid (fdk D (k + 1) = ⟨⟨g', r', t', e', l', m'⟩, k, 0⟩) := Lib.hid (by rw [HNX.out]; unfold Fd.upd; simp only; rw [if_pos (Or.inl (by trivial))])
            go_wp2_with (first
              | (go_at_call 51; (with_reducible refine RD.out.mono ?_); rintro e1 w1 ⟨rfl, hb, ht⟩; have Q1 := Lib.hid hb; have T1 := Lib.hid ht; clear hb ht)
              | (go_at_call 15; (with_reducible refine (HRU.out _ Q1.out).mono ?_); rintro e2 w2 ⟨rfl, ht⟩; have T2 := Lib.hid (T1.out.trans ht); clear ht; have B2 := Lib.hid (B0.out.turn T2.out (fun h => h)); obtain ⟨⟨q0, q1, q2, q3, q4, q5⟩, k0, k1_, k2, k3, k4, k5⟩ := blk6 B2.out; have hz2 : w.heap.size + 1 < w2.heap.size := B2.out.lt))
            go_roundw
            case rel => exact ⟨k + 1, by omega, by omega, by go_num, by rw [HU.out], by rw [HU.out], ⟨((HT.out.trans T2.out).put6 (.inr (by omega)) _ _ _ _ _ _).alloc _, ((K0.out.turn T2.out (fun h => h)).far6 (by omega) _ _ _ _ _ _).alloc _, by rw [HU.out]; exact B2.out.put6.alloc _⟩⟩
            case measure => simp [intOf]; omega
      · have RE := Lib.hid (readErr_dq (H.out.still HT.out) (k : Int) (.inr (.inr (by rw [HN.out]; omega))))
        rw [HD.out, if_neg (by simp)] at RE
        have HFD : Hid (D.find = ⟨zU, 0, 6⟩) := Lib.hid (by unfold Dsk.find; rw [HD.out, if_neg (by simp), if_pos (by rw [HN.out]; omega)])
        obtain ⟨⟨q0, q1, q2, q3, q4, q5⟩, k0, k1_, k2, k3, k4, k5⟩ := blk6 K0.out
        go_wp2_with (go_at_call 51; (with_reducible refine RE.out.mono ?_); rintro e1 w1 ⟨rfl, rfl⟩)
        rw [put6_eq]
        have hf := K0.out.put6 (a' := .int .i64 0) (b' := .int .i64 0) (c' := .int .i64 0) (d' := .int .i64 0) (e' := .int .i64 0) (f' := .int .i64 0)
        have hT := HT.out.put6 (g := w.heap.size) (.inr (Nat.le_refl _)) (.int .i64 0) (.int .i64 0) (.int .i64 0) (.int .i64 0) (.int .i64 0) (.int .i64 0)
        generalize put6 wr w.heap.size (.int .i64 0) (.int .i64 0) (.int .i64 0) (.int .i64 0) (.int .i64 0) (.int .i64 0) = WF at *
        clear q0 q1 q2 q3 q4 q5 k0 k1_ k2 k3 k4 k5
        obtain ⟨e0, e1, e2, e3, e4, e5⟩ := (blk6 hf).1
        exact bodyPost_ret (v := .tuple #[.agg #[.int .i64 0, .int .i64 0, .int .i64 0, .int .i64 0, .int .i64 0, .int .i64 0], .int .i64 0, .int .i64 6]) (by simp [results, Try.results25, go_sem, e0, e1, e2, e3, e4, e5]) rfl ⟨by rw [HFD.out]; rfl, hT⟩
    · obtain rfl : k = 2 := by omega
      have HFD : Hid (D.find = ⟨⟨g, r, t, e, l, m⟩, aa, f⟩) := Lib.hid (by unfold Dsk.find; rw [HD.out, if_neg (by simp), if_neg (by rw [HN.out]; omega)]; exact HX.out)
      clear HNX HX
      obtain ⟨⟨q0, q1, q2, q3, q4, q5⟩, k0, k1_, k2, k3, k4, k5⟩ := blk6 K0.out
      obtain ⟨p0, p1, p2, p3, p4, p5⟩ := (blk6 B0.out).1
      go_wp2
      rw [put6_eq]
      have hf := K0.out.put6 (a' := .int .i64 g) (b' := .int .i64 r) (c' := .int .i64 t) (d' := .int .i64 e) (e' := .int .i64 l) (f' := .int .i64 m)
      have hT := HT.out.put6 (g := w.heap.size) (.inr (Nat.le_refl _)) (.int .i64 g) (.int .i64 r) (.int .i64 t) (.int .i64 e) (.int .i64 l) (.int .i64 m)
      generalize put6 wr w.heap.size (.int .i64 g) (.int .i64 r) (.int .i64 t) (.int .i64 e) (.int .i64 l) (.int .i64 m) = WF at *
      clear q0 q1 q2 q3 q4 q5 k0 k1_ k2 k3 k4 k5 p0 p1 p2 p3 p4 p5
      obtain ⟨e0, e1, e2, e3, e4, e5⟩ := (blk6 hf).1
      exact bodyPost_ret (v := .tuple #[.agg #[.int .i64 g, .int .i64 r, .int .i64 t, .int .i64 e, .int .i64 l, .int .i64 m], .int .i64 aa, .int .i64 f]) (by simp [results, Try.results25, go_sem, e0, e1, e2, e3, e4, e5]) rfl ⟨by rw [HFD.out]; rfl, hT⟩
theorem find_dq {S : Nat → Prop} {w : World} {p : Nat} {D : Dsk} (h : Dq S w p D) :
    Calls Try.prog 25 #[.pointer (some ⟨p, 0, none⟩)] w fun r w' => r = .returned (fdv D.find) ∧ Turn (fun _ => False) w w' := by
  cases hd : D.dead with
  | false => exact find_in h hd
  | true =>
    have := find_bad (v := .pointer (some ⟨p, 0, none⟩)) 20 (by decide) w (Lib.hid (fun W ht => by
      have := readErr_dq (h.still ht) 0 (.inl hd)
      rw [hd, if_pos rfl] at this
      exact this))
    rwa [show D.find = ⟨zU, 0, 20⟩ from by unfold Dsk.find; rw [hd, if_pos rfl]]
theorem find_nod {w : World} {v : Value} (h : ∀ W, Turn (fun _ => False) w W → Nod W v) :
    Calls Try.prog 25 #[v] w fun r w' => r = .returned (fdv ⟨zU, 0, 1⟩) ∧ Turn (fun _ => False) w w' :=
  find_bad (v := v) 1 (by decide) w (Lib.hid (fun W ht => read_nod (h W ht) 0))
end Go.Proofs.Ytcjoinahelmmpaa
/- Layer 11: the program's Save. -/
namespace Go.Proofs.Ytcjoinahelmmpaa
open Go.RowKit
set_option linter.unusedVariables false
set_option linter.unusedSimpArgs false
set_option maxRecDepth 100000

/-- The Gen of the next one, and an error. -/
def nxt (x : Fd) : Int × Int := if x.f = 4 then (0, 0) else if x.f = 0 then (if x.s.g = 1152921504606846976 then (0, 18) else (x.s.g + 1, 0)) else (0, x.f)
def Dsk.wf (D : Dsk) (i : Int) (l : List UInt8) : Dsk × Int := if (D.write i l).2 = 0 then (D.write i l).1.flush else D.write i l
def Sup.gen (s : Sup) (g : Int) : Sup := ⟨g, s.r, s.t, s.e, s.l, s.m⟩
def Dsk.save (D : Dsk) (s : Sup) : Dsk × Sup × Int :=
  if (nxt D.find).2 = 0 then
    if rU (s.gen (nxt D.find).1) = true then
      if (D.wf ((nxt D.find).1 % 2) (putU (s.gen (nxt D.find).1))).2 = 0 then ((D.wf ((nxt D.find).1 % 2) (putU (s.gen (nxt D.find).1))).1, s.gen (nxt D.find).1, 0)
      else ((D.wf ((nxt D.find).1 % 2) (putU (s.gen (nxt D.find).1))).1, zU, (D.wf ((nxt D.find).1 % 2) (putU (s.gen (nxt D.find).1))).2)
    else (D, zU, 2)
  else (D, zU, (nxt D.find).2)
theorem Fd.upd_ok {x : Fd} (h : x.f = 0 → rU x.s = true) (k : Nat) {l : List UInt8} {o : Option Sup} (ho : readU l = o) : (x.upd k o).f = 0 → rU (x.upd k o).s = true := by
  unfold Fd.upd
  split
  · exact h
  · rename_i s
    split
    · intro _
      exact (readU_is ho).1
    · exact h
theorem fdk_ok (D : Dsk) : ∀ k, (fdk D k).f = 0 → rU (fdk D k).s = true
  | 0 => fun h => by cases h
  | k + 1 => Fd.upd_ok (fdk_ok D k) k rfl
theorem find_ok (D : Dsk) : D.find.f = 0 → rU D.find.s = true := by
  unfold Dsk.find
  split
  · intro h; cases h
  split
  · intro h; cases h
  · exact fdk_ok D 2
theorem nxt_range (D : Dsk) : 0 ≤ (nxt D.find).1 ∧ (nxt D.find).1 ≤ 1152921504606846976 := by
  unfold nxt
  split
  · simp
  split
  · rename_i h
    have := rU_yes (find_ok D h)
    split
    · simp
    · rename_i hg
      simp only
      omega
  · simp
theorem by_ownU {w : World} {S : Nat → Prop} {B : Nat} {v : Value} {l : List UInt8} (h : w.ownsRow B 5 1 v l.length (bv l)) (hS : ∀ k, S k → k < B) : By S w v l := by
  rcases row_of_own h with ⟨rfl, rfl⟩ | ⟨g, cap, rfl, hg, hr, hc⟩
  · exact ⟨none, 0, rfl, fun h => absurd h (by simp)⟩
  · refine ⟨_, cap, rfl, fun hp => ⟨_, rfl, hr.lt, fun hs => by have := hS _ hs; simp at this; omega, fun j c hj => ?_⟩⟩
    rw [show (⟨g, 0, none⟩ : Addr).add j = ⟨g, j, none⟩ from by unfold Addr.add; split <;> simp_all]
    exact hr.cell hj
theorem write_pend (D : Dsk) (i : Int) (l : List UInt8) : (D.write i l).1.pend.length ≤ D.pend.length + 1 := by
  unfold Dsk.write
  split
  · simp
  split
  · simp
  split
  · simp
  split
  · simp [(burnt_kept D).2]
  · simp [Dsk.wrote]
theorem writeU {S : Nat → Prop} {w : World} {p : Nat} {D : Dsk} (h : Dq S w p D) (i : Int) (vb : Value) (l : List UInt8) (hb : By S w vb l) (hp : D.pend.length < 900000000) :
    Calls Try.prog 55 #[.pointer (some ⟨p, 0, none⟩), .int .i64 i, vb] w fun e w' => e = .returned (.int .i64 (D.wf i l).2) ∧ ∃ S', Dq S' w' p (D.wf i l).1 ∧ Stp S w S' w' := by
  have HW := Lib.hid (write_dq h i vb l hb (by omega))
  have HP := Lib.hid (write_pend D i l)
  have HPD := Lib.hid hp
  obtain ⟨X, hX⟩ : ∃ X, D.write i l = X := ⟨_, rfl⟩
  have HWF : Hid (D.wf i l = if X.2 = 0 then X.1.flush else X) := Lib.hid (by unfold Dsk.wf; rw [hX])
  rw [hX] at HW HP
  rw [HWF.out]
  clear h hb hp hX HWF
  obtain ⟨D1, e1⟩ := X
  simp only at HW HP ⊢
  by_cases he : e1 = 0
  · subst he
    rw [if_pos rfl]
    have HF : Hid (∀ S' W, Dq S' W p D1 → Calls Try.prog 66 #[.pointer (some ⟨p, 0, none⟩)] W fun e w' => e = .returned (.int .i64 D1.flush.2) ∧ ∃ S'', Dq S'' w' p D1.flush.1 ∧ Stp S' W S'' w') := Lib.hid (fun S' W hq => flush_dq hq (by have := HP.out; have := HPD.out; omega))
    clear HP HPD
    obtain ⟨Y, hY⟩ : ∃ Y, D1.flush = Y := ⟨_, rfl⟩
    rw [hY] at HF ⊢
    clear hY
    obtain ⟨D2, e2⟩ := Y
    simp only at HF ⊢
    go_enter Try.func55, Try.ntmps55
    go_wp2_with fail
    refine HW.out.mono ?_
    rintro e w1 ⟨rfl, S1, hq, hs⟩
    have HQ := Lib.hid hq
    have HS := Lib.hid hs
    clear hq hs
    go_wp2_with fail
    refine (HF.out _ _ HQ.out).mono ?_
    rintro e w2 ⟨rfl, S2, hq, hs⟩
    have HQ2 := Lib.hid hq
    have HS2 := Lib.hid (HS.out.trans hs)
    clear hq hs
    go_wp2_with fail
    go_ret
    exact ⟨rfl, S2, HQ2.out, HS2.out⟩
  · rw [if_neg he]
    simp only
    clear HP HPD
    go_enter Try.func55, Try.ntmps55
    go_wp2_with fail
    refine HW.out.mono ?_
    rintro e w1 ⟨rfl, S1, hq, hs⟩
    have HQ := Lib.hid hq
    have HS := Lib.hid hs
    clear hq hs
    go_wp2_with fail
    go_ret
    exact ⟨rfl, S1, HQ.out, HS.out⟩
theorem next_of {v : Value} (x : Fd) (hx : x.f = 0 → 0 ≤ x.s.g ∧ x.s.g ≤ 1152921504606846976) (w : World) (HF : Hid (Calls Try.prog 25 #[v] w fun r w' => r = .returned (fdv x) ∧ Turn (fun _ => False) w w')) :
    Calls Try.prog 54 #[v] w fun r w' => r = .returned (.tuple #[.int .i64 (nxt x).1, .int .i64 (nxt x).2]) ∧ Turn (fun _ => False) w w' := by
  obtain ⟨⟨g, r, t, e, l, m⟩, aa, f⟩ := x
  unfold fdv uv at HF
  simp only at hx HF
  have key : (f = 4 ∧ nxt ⟨⟨g, r, t, e, l, m⟩, aa, f⟩ = (0, 0)) ∨ (¬ f = 4 ∧ ¬ f = 0 ∧ nxt ⟨⟨g, r, t, e, l, m⟩, aa, f⟩ = (0, f)) ∨ (f = 0 ∧ g = 1152921504606846976 ∧ nxt ⟨⟨g, r, t, e, l, m⟩, aa, f⟩ = (0, 18)) ∨ (f = 0 ∧ (0 ≤ g ∧ g < 1152921504606846976 ∧ ¬ g = 1152921504606846976) ∧ nxt ⟨⟨g, r, t, e, l, m⟩, aa, f⟩ = (g + 1, 0)) := by
    unfold nxt
    simp only
    by_cases h4 : f = 4
    · rw [if_pos h4]; exact .inl ⟨h4, rfl⟩
    rw [if_neg h4]
    by_cases h0 : f = 0
    · rw [if_pos h0]
      have := hx h0
      by_cases hg : g = 1152921504606846976
      · rw [if_pos hg]; exact .inr (.inr (.inl ⟨h0, hg, rfl⟩))
      · rw [if_neg hg]; exact .inr (.inr (.inr ⟨h0, by omega, rfl⟩))
    · rw [if_neg h0]; exact .inr (.inl ⟨h4, h0, rfl⟩)
  obtain ⟨N, hN⟩ : ∃ N, nxt ⟨⟨g, r, t, e, l, m⟩, aa, f⟩ = N := ⟨_, rfl⟩
  rw [hN] at key ⊢
  clear hN hx
  rcases key with ⟨rfl, rfl⟩ | ⟨h4, h0, rfl⟩ | ⟨rfl, rfl, rfl⟩ | ⟨rfl, ⟨h1, h2, h3⟩, rfl⟩
  all_goals
    go_enter Try.func54, Try.ntmps54
    go_wp2_with fail
    refine HF.out.mono ?_
    rintro e1 w1 ⟨rfl, ht⟩
    have HT := Lib.hid ht
    clear ht
    go_wp2_with fail
    go_ret2
    exact ⟨rfl, HT.out.alloc _⟩
theorem next_dq {S : Nat → Prop} {w : World} {p : Nat} {D : Dsk} (h : Dq S w p D) :
    Calls Try.prog 54 #[.pointer (some ⟨p, 0, none⟩)] w fun r w' => r = .returned (.tuple #[.int .i64 (nxt D.find).1, .int .i64 (nxt D.find).2]) ∧ Turn (fun _ => False) w w' :=
  next_of D.find (fun h0 => by have := rU_yes (find_ok D h0); omega) w (Lib.hid (find_dq h))
/-- Save of what next refuses. -/
theorem save_no {v : Value} (s : Sup) (g e : Int) (he : ¬ e = 0) (w : World) (HN : Hid (∀ W, Turn (fun _ => False) w W → Calls Try.prog 54 #[v] W fun r w' => r = .returned (.tuple #[.int .i64 g, .int .i64 e]) ∧ Turn (fun _ => False) W w')) :
    Calls Try.prog 28 #[v, uv s] w fun r w' => r = .returned (.tuple #[uv zU, .int .i64 e]) ∧ Turn (fun _ => False) w w' := by
  obtain ⟨sg, sr, st, se, sl, sm⟩ := s
  unfold uv zU
  simp only
  have K0 := Lib.hid (Blk.new_ (w.alloc (.cells #[.int .i64 sg, .int .i64 sr, .int .i64 st, .int .i64 se, .int .i64 sl, .int .i64 sm] 23)) 23 [.int .i64 0, .int .i64 0, .int .i64 0, .int .i64 0, .int .i64 0, .int .i64 0] (k := w.heap.size + 1) (by simp))
  have T0 := Lib.hid (((Turn.refl (fun _ => False) w).alloc (.cells #[.int .i64 sg, .int .i64 sr, .int .i64 st, .int .i64 se, .int .i64 sl, .int .i64 sm] 23)).alloc (.cells #[.int .i64 0, .int .i64 0, .int .i64 0, .int .i64 0, .int .i64 0, .int .i64 0] 23))
  go_enter Try.func28, Try.ntmps28
  go_wp2_with fail
  refine (HN.out _ T0.out).mono ?_
  rintro e1 w1 ⟨rfl, ht⟩
  have K1 := Lib.hid (K0.out.turn ht (fun h => h))
  have T1 := Lib.hid (T0.out.trans ht)
  clear ht
  obtain ⟨⟨q0, q1, q2, q3, q4, q5⟩, k0, k1_, k2, k3, k4, k5⟩ := blk6 K1.out
  go_wp2_with fail
  rw [put6_eq]
  have hf := K1.out.put6 (a' := .int .i64 0) (b' := .int .i64 0) (c' := .int .i64 0) (d' := .int .i64 0) (e' := .int .i64 0) (f' := .int .i64 0)
  have hT := T1.out.put6 (g := w.heap.size + 1) (.inr (Nat.le_succ _)) (.int .i64 0) (.int .i64 0) (.int .i64 0) (.int .i64 0) (.int .i64 0) (.int .i64 0)
  generalize put6 w1 (w.heap.size + 1) (.int .i64 0) (.int .i64 0) (.int .i64 0) (.int .i64 0) (.int .i64 0) (.int .i64 0) = WF at *
  clear q0 q1 q2 q3 q4 q5 k0 k1_ k2 k3 k4 k5
  obtain ⟨e0, e1, e2, e3, e4, e5⟩ := (blk6 hf).1
  exact bodyPost_ret (v := .tuple #[.agg #[.int .i64 0, .int .i64 0, .int .i64 0, .int .i64 0, .int .i64 0, .int .i64 0], .int .i64 e]) (by simp [results, Try.results28, go_sem, e0, e1, e2, e3, e4, e5]) rfl ⟨rfl, hT⟩
set_option maxHeartbeats 4000000 in
theorem save_yes {S : Nat → Prop} {w : World} {p : Nat} {D : Dsk} (h : Dq S w p D) (s : Sup) (g : Int) (h0 : 0 ≤ g) (h1 : g ≤ 1152921504606846976) (hn : nxt D.find = (g, 0)) (hp : D.pend.length < 900000000) :
    Calls Try.prog 28 #[.pointer (some ⟨p, 0, none⟩), uv s] w fun r w' => r = .returned (.tuple #[uv (D.save s).2.1, .int .i64 (D.save s).2.2]) ∧ ∃ S', Dq S' w' p (D.save s).1 ∧ Stp S w S' w' := by
  have H := Lib.hid h
  have HP := Lib.hid hp
  have HN : Hid (∀ W, Turn (fun _ => False) w W → Calls Try.prog 54 #[.pointer (some ⟨p, 0, none⟩)] W fun r w' => r = .returned (.tuple #[.int .i64 g, .int .i64 0]) ∧ Turn (fun _ => False) W w') := Lib.hid (fun W ht => by have := next_dq (h.still ht); rw [hn] at this; exact this)
  have HSV : Hid (D.save s = if rU (s.gen g) = true then (if (D.wf (g % 2) (putU (s.gen g))).2 = 0 then ((D.wf (g % 2) (putU (s.gen g))).1, s.gen g, 0) else ((D.wf (g % 2) (putU (s.gen g))).1, zU, (D.wf (g % 2) (putU (s.gen g))).2)) else (D, zU, 2)) := Lib.hid (by unfold Dsk.save; rw [hn, if_pos rfl])
  have HSL : Hid (∀ k, S k → k < w.heap.size) := Lib.hid h.lt
  obtain ⟨sg, sr, st, se, sl, sm⟩ := s
  have hsg : Sup.gen ⟨sg, sr, st, se, sl, sm⟩ g = ⟨g, sr, st, se, sl, sm⟩ := rfl
  rw [hsg] at HSV
  obtain ⟨SV, hSV⟩ : ∃ SV, D.save ⟨sg, sr, st, se, sl, sm⟩ = SV := ⟨_, rfl⟩
  rw [hSV] at HSV ⊢
  have B0 := Lib.hid ((Blk.new w 23 [.int .i64 sg, .int .i64 sr, .int .i64 st, .int .i64 se, .int .i64 sl, .int .i64 sm]).alloc (.cells #[.int .i64 0, .int .i64 0, .int .i64 0, .int .i64 0, .int .i64 0, .int .i64 0] 23))
  have K0 := Lib.hid (Blk.new_ (w.alloc (.cells #[.int .i64 sg, .int .i64 sr, .int .i64 st, .int .i64 se, .int .i64 sl, .int .i64 sm] 23)) 23 [.int .i64 0, .int .i64 0, .int .i64 0, .int .i64 0, .int .i64 0, .int .i64 0] (k := w.heap.size + 1) (by simp))
  have T0 := Lib.hid (((Turn.refl (fun _ => False) w).alloc (.cells #[.int .i64 sg, .int .i64 sr, .int .i64 st, .int .i64 se, .int .i64 sl, .int .i64 sm] 23)).alloc (.cells #[.int .i64 0, .int .i64 0, .int .i64 0, .int .i64 0, .int .i64 0, .int .i64 0] 23))
  have HB2 := Lib.hid (bytesU_bad ⟨g, sr, st, se, sl, sm⟩)
  have HB0 := Lib.hid (bytesU_ok ⟨g, sr, st, se, sl, sm⟩)
  unfold uv at *
  simp only at HB2 HB0
  clear h hn hp hsg hSV
  have key : ∀ b, rU ⟨g, sr, st, se, sl, sm⟩ = b → (b = false ∧ rU ⟨g, sr, st, se, sl, sm⟩ = false) ∨ (b = true ∧ rU ⟨g, sr, st, se, sl, sm⟩ = true) := fun b hb => by cases b; exact .inl ⟨rfl, hb⟩; exact .inr ⟨rfl, hb⟩
  rcases key _ rfl with ⟨_, hr⟩ | ⟨_, hr⟩
  · have HB := Lib.hid (HB2.out hr)
    have HE : Hid (SV = (D, zU, 2)) := Lib.hid (by rw [HSV.out, if_neg (by rw [hr]; simp)])
    clear HB0 HB2 hr HSV key
    obtain rfl := HE.out
    unfold zU
    simp only
    go_enter Try.func28, Try.ntmps28
    go_wp2_with fail
    refine (HN.out _ T0.out).mono ?_
    rintro e1 w1 ⟨rfl, ht⟩
    have B1 := Lib.hid (B0.out.turn ht (fun h => h))
    have K1 := Lib.hid (K0.out.turn ht (fun h => h))
    have T1 := Lib.hid (T0.out.trans ht)
    clear ht
    obtain ⟨⟨q0, q1, q2, q3, q4, q5⟩, k0, k1_, k2, k3, k4, k5⟩ := blk6 B1.out
    go_wp2_with fail
    have B2 := Lib.hid (B1.out.put 0 (.int .i64 g))
    simp only [List.set_cons_zero] at B2
    have K2 := Lib.hid (K1.out.far (p := ⟨w.heap.size, 0, none⟩) (by simp) (.int .i64 g))
    have T2 := Lib.hid (T1.out.setCell (p := ⟨w.heap.size, 0, none⟩) (.inr (Nat.le_refl _)) (.int .i64 g))
    generalize w1.setCell ⟨w.heap.size, 0, none⟩ (.int .i64 g) = w2 at *
    clear q0 q1 q2 q3 q4 q5 k0 k1_ k2 k3 k4 k5
    refine (HB.out _).mono ?_
    rintro e1 w3 ⟨rfl, ht⟩
    have K3 := Lib.hid (K2.out.turn ht (fun h => h))
    have T3 := Lib.hid (T2.out.trans ht)
    clear ht
    obtain ⟨⟨q0, q1, q2, q3, q4, q5⟩, k0, k1_, k2, k3, k4, k5⟩ := blk6 K3.out
    go_wp2_with fail
    rw [put6_eq]
    have hf := K3.out.put6 (a' := .int .i64 0) (b' := .int .i64 0) (c' := .int .i64 0) (d' := .int .i64 0) (e' := .int .i64 0) (f' := .int .i64 0)
    have hT := T3.out.put6 (g := w.heap.size + 1) (.inr (Nat.le_succ _)) (.int .i64 0) (.int .i64 0) (.int .i64 0) (.int .i64 0) (.int .i64 0) (.int .i64 0)
    generalize put6 w3 (w.heap.size + 1) (.int .i64 0) (.int .i64 0) (.int .i64 0) (.int .i64 0) (.int .i64 0) (.int .i64 0) = WF at *
    clear q0 q1 q2 q3 q4 q5 k0 k1_ k2 k3 k4 k5
    obtain ⟨e0, e1, e2, e3, e4, e5⟩ := (blk6 hf).1
    exact bodyPost_ret (v := .tuple #[.agg #[.int .i64 0, .int .i64 0, .int .i64 0, .int .i64 0, .int .i64 0, .int .i64 0], .int .i64 2]) (by simp [results, Try.results28, go_sem, e0, e1, e2, e3, e4, e5]) rfl ⟨rfl, S, H.out.still hT, Stp.quiet hT⟩
  · have HB := Lib.hid (HB0.out hr)
    have HE : Hid (SV = if (D.wf (g % 2) (putU ⟨g, sr, st, se, sl, sm⟩)).2 = 0 then ((D.wf (g % 2) (putU ⟨g, sr, st, se, sl, sm⟩)).1, ⟨g, sr, st, se, sl, sm⟩, 0) else ((D.wf (g % 2) (putU ⟨g, sr, st, se, sl, sm⟩)).1, zU, (D.wf (g % 2) (putU ⟨g, sr, st, se, sl, sm⟩)).2)) := Lib.hid (by rw [HSV.out, if_pos hr])
    have HLP := Lib.hid (len_putU ⟨g, sr, st, se, sl, sm⟩)
    obtain ⟨X, hX⟩ : ∃ X, D.wf (g % 2) (putU ⟨g, sr, st, se, sl, sm⟩) = X := ⟨_, rfl⟩
    rw [hX] at HE
    have HW : Hid (∀ W v, Dq S W p D → W.ownsRow w.heap.size 5 1 v 128 (bv (putU ⟨g, sr, st, se, sl, sm⟩)) → Calls Try.prog 55 #[.pointer (some ⟨p, 0, none⟩), .int .i64 (g % 2), v] W fun e w' => e = .returned (.int .i64 X.2) ∧ ∃ S', Dq S' w' p X.1 ∧ Stp S W S' w') := Lib.hid (fun W v hq ho => by
      have := writeU hq (g % 2) v (putU ⟨g, sr, st, se, sl, sm⟩) (by_ownU (by rw [HLP.out]; exact ho) HSL.out) HP.out
      rw [hX] at this; exact this)
    obtain ⟨D2, er⟩ := X
    simp only at HW HE
    obtain ⟨PU, hPU⟩ : ∃ PU, putU ⟨g, sr, st, se, sl, sm⟩ = PU := ⟨_, rfl⟩
    rw [hPU] at HB HW
    clear HB0 HB2 hr HSV key hX hPU HLP
    have key : (er = 0 ∧ SV = (D2, ⟨g, sr, st, se, sl, sm⟩, 0)) ∨ (¬ er = 0 ∧ SV = (D2, zU, er)) := by
      by_cases he : er = 0
      · exact .inl ⟨he, by rw [HE.out, if_pos he]⟩
      · exact .inr ⟨he, by rw [HE.out, if_neg he]⟩
    clear HE
    rcases key with ⟨rfl, rfl⟩ | ⟨he, rfl⟩
    all_goals
      (try unfold zU)
      simp only
      go_enter Try.func28, Try.ntmps28
      go_wp2_with fail
      refine (HN.out _ T0.out).mono ?_
      rintro e1 w1 ⟨rfl, ht⟩
      have B1 := Lib.hid (B0.out.turn ht (fun h => h))
      have K1 := Lib.hid (K0.out.turn ht (fun h => h))
      have T1 := Lib.hid (T0.out.trans ht)
      clear ht
      obtain ⟨⟨q0, q1, q2, q3, q4, q5⟩, k0, k1_, k2, k3, k4, k5⟩ := blk6 B1.out
      go_wp2_with fail
      have B2 := Lib.hid (B1.out.put 0 (.int .i64 g))
      simp only [List.set_cons_zero] at B2
      have K2 := Lib.hid (K1.out.far (p := ⟨w.heap.size, 0, none⟩) (by simp) (.int .i64 g))
      have T2 := Lib.hid (T1.out.setCell (p := ⟨w.heap.size, 0, none⟩) (.inr (Nat.le_refl _)) (.int .i64 g))
      generalize w1.setCell ⟨w.heap.size, 0, none⟩ (.int .i64 g) = w2 at *
      clear q0 q1 q2 q3 q4 q5 k0 k1_ k2 k3 k4 k5
      refine (HB.out _).mono ?_
      rintro e1 w3 ⟨v3, rfl, ho, hb⟩
      have ht := Turn.of_below (S := fun _ => False) hb (fun k h1 h2 => by omega)
      have O3 := Lib.hid (own_low5 (B' := w.heap.size) ho T2.out.size)
      have B3 := Lib.hid (B2.out.turn ht (fun h => h))
      have K3 := Lib.hid (K2.out.turn ht (fun h => h))
      have T3 := Lib.hid (T2.out.trans ht)
      clear ht ho hb
      go_wp2_with fail
      refine (HW.out _ _ (H.out.still T3.out) O3.out).mono ?_
      rintro e1 w4 ⟨rfl, S4, hq, hs⟩
      have Q4 := Lib.hid hq
      have hz3 := K3.out.lt
      have HS4 := Lib.hid hs
      have hnB : ¬ S w.heap.size := fun hk => by have := HSL.out _ hk; omega
      have hnK : ¬ S (w.heap.size + 1) := fun hk => by have := HSL.out _ hk; omega
      have B4 := Lib.hid (B3.out.turn hs.1 hnB)
      have K4 := Lib.hid (K3.out.turn hs.1 hnK)
      have T4 := Lib.hid ((Stp.quiet T3.out).trans hs)
      have HNK : Hid (¬ S4 (w.heap.size + 1)) := Lib.hid (fun hk => by rcases hs.2 _ hk with h1 | h1; exact hnK h1; omega)
      clear hq hs hnB hnK
      obtain ⟨⟨q0, q1, q2, q3, q4, q5⟩, k0, k1_, k2, k3, k4, k5⟩ := blk6 K4.out
      obtain ⟨p0, p1, p2, p3, p4, p5⟩ := (blk6 B4.out).1
      go_wp2_with fail
      clear p0 p1 p2 p3 p4 p5
    · rw [put6_eq]
      have hf := K4.out.put6 (a' := .int .i64 g) (b' := .int .i64 sr) (c' := .int .i64 st) (d' := .int .i64 se) (e' := .int .i64 sl) (f' := .int .i64 sm)
      have hS := (Turn.refl (fun k => k = w.heap.size + 1) w4).put6 (g := w.heap.size + 1) (.inl rfl) (.int .i64 g) (.int .i64 sr) (.int .i64 st) (.int .i64 se) (.int .i64 sl) (.int .i64 sm)
      have hT := T4.out.1.put6 (g := w.heap.size + 1) (.inr (Nat.le_succ _)) (.int .i64 g) (.int .i64 sr) (.int .i64 st) (.int .i64 se) (.int .i64 sl) (.int .i64 sm)
      generalize put6 w4 (w.heap.size + 1) (.int .i64 g) (.int .i64 sr) (.int .i64 st) (.int .i64 se) (.int .i64 sl) (.int .i64 sm) = WF at *
      clear q0 q1 q2 q3 q4 q5 k0 k1_ k2 k3 k4 k5
      obtain ⟨e0, e1, e2, e3, e4, e5⟩ := (blk6 hf).1
      exact bodyPost_ret (v := .tuple #[.agg #[.int .i64 g, .int .i64 sr, .int .i64 st, .int .i64 se, .int .i64 sl, .int .i64 sm], .int .i64 0]) (by simp [results, Try.results28, go_sem, e0, e1, e2, e3, e4, e5]) rfl ⟨rfl, S4, Q4.out.turn hS (fun k hk e => HNK.out (e ▸ hk)), hT, T4.out.2⟩
    · rw [put6_eq]
      have hf := K4.out.put6 (a' := .int .i64 0) (b' := .int .i64 0) (c' := .int .i64 0) (d' := .int .i64 0) (e' := .int .i64 0) (f' := .int .i64 0)
      have hS := (Turn.refl (fun k => k = w.heap.size + 1) w4).put6 (g := w.heap.size + 1) (.inl rfl) (.int .i64 0) (.int .i64 0) (.int .i64 0) (.int .i64 0) (.int .i64 0) (.int .i64 0)
      have hT := T4.out.1.put6 (g := w.heap.size + 1) (.inr (Nat.le_succ _)) (.int .i64 0) (.int .i64 0) (.int .i64 0) (.int .i64 0) (.int .i64 0) (.int .i64 0)
      generalize put6 w4 (w.heap.size + 1) (.int .i64 0) (.int .i64 0) (.int .i64 0) (.int .i64 0) (.int .i64 0) (.int .i64 0) = WF at *
      clear q0 q1 q2 q3 q4 q5 k0 k1_ k2 k3 k4 k5
      obtain ⟨e0, e1, e2, e3, e4, e5⟩ := (blk6 hf).1
      exact bodyPost_ret (v := .tuple #[.agg #[.int .i64 0, .int .i64 0, .int .i64 0, .int .i64 0, .int .i64 0, .int .i64 0], .int .i64 er]) (by simp [results, Try.results28, go_sem, e0, e1, e2, e3, e4, e5]) rfl ⟨rfl, S4, Q4.out.turn hS (fun k hk e => HNK.out (e ▸ hk)), hT, T4.out.2⟩
theorem save_dq {S : Nat → Prop} {w : World} {p : Nat} {D : Dsk} (h : Dq S w p D) (s : Sup) (hp : D.pend.length < 900000000) :
    Calls Try.prog 28 #[.pointer (some ⟨p, 0, none⟩), uv s] w fun r w' => r = .returned (.tuple #[uv (D.save s).2.1, .int .i64 (D.save s).2.2]) ∧ ∃ S', Dq S' w' p (D.save s).1 ∧ Stp S w S' w' := by
  have hr := nxt_range D
  by_cases he : (nxt D.find).2 = 0
  · exact save_yes h s (nxt D.find).1 hr.1 hr.2 (Prod.ext rfl he) hp
  · have := save_no s (nxt D.find).1 (nxt D.find).2 he w (Lib.hid (fun W ht => next_dq (h.still ht)))
    have hs : D.save s = (D, zU, (nxt D.find).2) := by unfold Dsk.save; rw [if_neg he]
    rw [hs]
    exact this.mono (fun r w' ⟨h1, h2⟩ => ⟨h1, S, h.still h2, Stp.quiet h2⟩)
theorem save_nod {w : World} {v : Value} (s : Sup) (h : ∀ W, Turn (fun _ => False) w W → Nod W v) :
    Calls Try.prog 28 #[v, uv s] w fun r w' => r = .returned (.tuple #[uv zU, .int .i64 1]) ∧ Turn (fun _ => False) w w' :=
  save_no s 0 1 (by decide) w (Lib.hid (fun W ht => next_of ⟨zU, 0, 1⟩ (fun h => by cases h) W (Lib.hid (find_nod (fun W' ht' => h W' (ht.trans ht'))))))
end Go.Proofs.Ytcjoinahelmmpaa
/- Layer 11: the chapter's example. -/
namespace Go.Proofs.Ytcjoinahelmmpaa
open Go.RowKit
set_option linter.unusedVariables false
set_option linter.unusedSimpArgs false
set_option maxRecDepth 100000

/-- A disk that the call made, at a world. -/
structure Lv11 (w : World) (p : Nat) (S : Nat → Prop) (W : World) (D : Dsk) : Prop where
  dq : Dq S W p D
  t : Turn (fun _ => False) w W
  s : ∀ k, S k → w.heap.size ≤ k
theorem Lv11.still {w W W' : World} {p : Nat} {S : Nat → Prop} {D : Dsk} (h : Lv11 w p S W D) (ht : Turn (fun _ => False) W W') : Lv11 w p S W' D := ⟨h.dq.still ht, h.t.trans ht, h.s⟩
theorem Lv11.step {w W W' : World} {p : Nat} {S S' : Nat → Prop} {D D' : Dsk} (h : Lv11 w p S W D) (hq : Dq S' W' p D') (hs : Stp S W S' W') : Lv11 w p S' W' D' :=
  ⟨hq, h.t.trans_new hs.1 (fun k hk e => by have := h.s k e; omega), fun k hk => by
    rcases hs.2 k hk with h1 | h1
    · exact h.s k h1
    · have := h.t.size; omega⟩
/-- A box of the call's own, apart from the disk. -/
def Bx (S : Nat → Prop) (W : World) (b : Nat) (s : Sup) : Prop := Blk W b 23 [.int .i64 s.g, .int .i64 s.r, .int .i64 s.t, .int .i64 s.e, .int .i64 s.l, .int .i64 s.m] ∧ ¬ S b
theorem Bx.still {S : Nat → Prop} {W W' : World} {b : Nat} {s : Sup} (h : Bx S W b s) (ht : Turn (fun _ => False) W W') : Bx S W' b s := ⟨h.1.turn ht (fun h => h), h.2⟩
theorem Bx.step {S S' : Nat → Prop} {W W' : World} {b : Nat} {s : Sup} (h : Bx S W b s) (hs : Stp S W S' W') : Bx S' W' b s :=
  ⟨h.1.turn hs.1 h.2, fun hk => by
    rcases hs.2 b hk with h1 | h1
    · exact h.2 h1
    · have := h.1.lt; omega⟩
theorem Bx.new {w : World} {p : Nat} {S : Nat → Prop} {W : World} {D : Dsk} (h : Lv11 w p S W D) (s : Sup) : Bx S (W.alloc (.cells #[.int .i64 s.g, .int .i64 s.r, .int .i64 s.t, .int .i64 s.e, .int .i64 s.l, .int .i64 s.m] 23)) W.heap.size s :=
  ⟨Blk.new _ _ _, fun hk => by have := h.dq.lt _ hk; omega⟩
/-- A disk on which nothing is pending. -/
def dskK (K : List (List UInt8)) : Dsk := ⟨K, [], -1, false⟩
theorem full_put (s : Sup) : full (putU s) = putU s := by simp [full, len_putU]
theorem wf_K (K : List (List UInt8)) (i : Nat) (hi : i < K.length) (s : Sup) : (dskK K).wf i (putU s) = (dskK (K.set i (putU s)), 0) := by
  have h1 : (dskK K).write i (putU s) = ((dskK K).wrote i (putU s), 0) := by
    unfold Dsk.write
    rw [if_neg (by simp [dskK]), if_neg (by simp [dskK]; omega), if_neg (by rw [len_putU]; decide), if_neg (by simp [dskK])]
    simp
  unfold Dsk.wf
  rw [h1]
  simp only [if_true]
  have h2 : (dskK K).wrote i (putU s) = ⟨K, [(i, putU s)], -1, false⟩ := by
    unfold Dsk.wrote Dsk.burnt
    rw [if_neg (by simp [dskK]), if_neg (by simp [dskK])]
    simp [dskK, full_put]
  rw [h2]
  unfold Dsk.flush Dsk.flushed Dsk.burnt
  simp [Dsk.keepAll, Dsk.keepW, Dsk.lost, dskK]
def s1U : Sup := ⟨0, 5, 0, 0, 0, 0⟩
def s2U : Sup := ⟨1, 6, 0, 0, 0, 0⟩
theorem rd_s1 : readU (putU s1U) = some s1U := readU_put (by decide)
theorem rd_s2 : readU (putU s2U) = some s2U := readU_put (by decide)
theorem rd_zeros : readU zeros = none := testsU_no zeros rfl (.inl (by decide))
def L0U : Dsk := dskK [zeros, zeros]
def L1U : Dsk := dskK [putU s1U, zeros]
def L2U : Dsk := dskK [putU s1U, putU s2U]
def L3U : Dsk := { L2U with fuse := 0 }
def L4U : Dsk := { L3U with dead := true }
theorem fresh_L0 : fresh 2 = L0U := rfl
theorem find_K (a b : List UInt8) (F : Int) : (⟨[a, b], [], F, false⟩ : Dsk).find = ((⟨zU, 0, 4⟩ : Fd).upd 0 (readU a)).upd 1 (readU b) := by
  unfold Dsk.find
  rw [if_neg (by simp), if_neg (by simp)]
  rfl
theorem f_L0 : L0U.find = ⟨zU, 0, 4⟩ := by
  show (⟨[zeros, zeros], [], -1, false⟩ : Dsk).find = _
  rw [find_K, rd_zeros]; rfl
theorem f_L1 : L1U.find = ⟨s1U, 0, 0⟩ := by
  show (⟨[putU s1U, zeros], [], -1, false⟩ : Dsk).find = _
  rw [find_K, rd_zeros, rd_s1]; decide
theorem f_L2 : L2U.find = ⟨s2U, 1, 0⟩ := by
  show (⟨[putU s1U, putU s2U], [], -1, false⟩ : Dsk).find = _
  rw [find_K, rd_s1, rd_s2]; decide
theorem f_L3 : L3U.find = ⟨s2U, 1, 0⟩ := by
  show (⟨[putU s1U, putU s2U], [], 0, false⟩ : Dsk).find = _
  rw [find_K, rd_s1, rd_s2]; decide
theorem sv_L0 : L0U.save ⟨0, 5, 0, 0, 0, 0⟩ = (L1U, s1U, 0) := by
  unfold Dsk.save
  rw [f_L0]
  have hn : nxt ⟨zU, 0, 4⟩ = (0, 0) := by decide
  rw [hn]
  have hg : Sup.gen ⟨0, 5, 0, 0, 0, 0⟩ 0 = s1U := rfl
  simp only [hg]
  rw [if_pos trivial, if_pos (by decide)]
  have := wf_K [zeros, zeros] 0 (by decide) s1U
  rw [show (0 : Int) % 2 = ((0 : Nat) : Int) from rfl, show L0U = dskK [zeros, zeros] from rfl, this]
  rfl
theorem sv_L1 : L1U.save ⟨0, 6, 0, 0, 0, 0⟩ = (L2U, s2U, 0) := by
  unfold Dsk.save
  rw [f_L1]
  have hn : nxt ⟨s1U, 0, 0⟩ = (1, 0) := by decide
  rw [hn]
  have hg : Sup.gen ⟨0, 6, 0, 0, 0, 0⟩ 1 = s2U := rfl
  simp only [hg]
  rw [if_pos trivial, if_pos (by decide)]
  have := wf_K [putU s1U, zeros] 1 (by simp) s2U
  rw [show (1 : Int) % 2 = ((1 : Nat) : Int) from rfl, show L1U = dskK [putU s1U, zeros] from rfl, this]
  rfl
theorem sv_L3 : L3U.save ⟨0, 7, 0, 0, 0, 0⟩ = (L4U, zU, 20) := by
  unfold Dsk.save
  rw [f_L3]
  have hn : nxt ⟨s2U, 1, 0⟩ = (2, 0) := by decide
  rw [hn]
  have hg : Sup.gen ⟨0, 7, 0, 0, 0, 0⟩ 2 = ⟨2, 7, 0, 0, 0, 0⟩ := rfl
  simp only [hg]
  rw [if_pos trivial, if_pos (by decide)]
  have h1 : L3U.write (2 % 2) (putU ⟨2, 7, 0, 0, 0, 0⟩) = (L4U, 20) := by
    unfold Dsk.write
    rw [if_neg (by simp [L3U, L2U, dskK]), if_neg (by simp [L3U, L2U, dskK]), if_neg (by rw [len_putU]; decide), if_pos (by simp [L3U])]
    unfold Dsk.burnt
    rw [if_pos (by simp [L3U])]
    rfl
  unfold Dsk.wf
  rw [h1]
  rfl
theorem cr_L4 : L4U.crashed [] = L2U := rfl
theorem lives11_any (w : World) : Calls Try.prog 14 #[] w fun e w' => e = .returned (.bool true) ∧ Turn (fun _ => False) w w' := by
  have HN : Hid (Calls Try.prog 17 #[.int .i64 2] w fun e w' => ∃ p S, e = .returned (.tuple #[.pointer (some ⟨p, 0, none⟩), .int .i64 0]) ∧ Lv11 w p S w' L0U) := Lib.hid ((new_dq 2 (by decide) (by decide) w).mono (fun e w' ⟨p, S, h1, h2, h3, h4⟩ => ⟨p, S, h1, h2, h4, h3⟩))
  have HF : Hid (∀ p S W D x, D.find = x → Lv11 w p S W D → Calls Try.prog 25 #[.pointer (some ⟨p, 0, none⟩)] W fun r w' => r = .returned (fdv x) ∧ Turn (fun _ => False) W w' ∧ Lv11 w p S w' D) := Lib.hid (fun p S W D x hx h => by
    have := find_dq h.dq
    rw [hx] at this
    exact this.mono (fun r w' ⟨h1, h2⟩ => ⟨h1, h2, h.still h2⟩))
  have HS : Hid (∀ p S W D s D' s' e', D.save s = (D', s', e') → D.pend = [] → Lv11 w p S W D → Calls Try.prog 28 #[.pointer (some ⟨p, 0, none⟩), uv s] W fun r w' => r = .returned (.tuple #[uv s', .int .i64 e']) ∧ ∃ S', Stp S W S' w' ∧ Lv11 w p S' w' D') := Lib.hid (fun p S W D s D' s' e' hx hp h => by
    have := save_dq h.dq s (by rw [hp]; decide)
    rw [hx] at this
    exact this.mono (fun r w' ⟨h1, S', h2, h3⟩ => ⟨h1, S', h3, h.step h2 h3⟩))
  have HA : Hid (∀ p S W, Lv11 w p S W L2U → Calls Try.prog 24 #[.pointer (some ⟨p, 0, none⟩), .int .i64 0] W fun r w' => r = .returned (.int .i64 0) ∧ ∃ S', Stp S W S' w' ∧ Lv11 w p S' w' L3U) := Lib.hid (fun p S W h => (arm_dq h.dq 0 (by decide)).mono (fun r w' ⟨h1, S', h2, h3⟩ => ⟨h1, S', h3, h.step h2 h3⟩))
  have HC : Hid (∀ p S W, Lv11 w p S W L4U → Calls Try.prog 22 #[.pointer (some ⟨p, 0, none⟩), .slice none 0 0] W fun r w' => r = .returned (.int .i64 0) ∧ ∃ S', Stp S W S' w' ∧ Lv11 w p S' w' L2U) := Lib.hid (fun p S W h => (crash_dq h.dq (by decide) (.slice none 0 0) [] (by decide) ⟨none, 0, rfl, fun h => absurd h (by simp)⟩).mono (fun r w' ⟨h1, S', h2, h3⟩ => ⟨h1, S', h3, h.step h2 h3⟩))
  go_enter Try.func14, Try.ntmps14
  go_wp2_with fail
  refine HN.out.mono ?_
  rintro e w1 ⟨p, S1, rfl, hl⟩
  have L1 := Lib.hid hl
  clear hl
  go_wp2_with fail
  refine (HF.out _ _ _ _ _ f_L0 L1.out).mono ?_
  rintro e w2 ⟨rfl, ht, hl⟩
  simp only [fdv, uv, zU, s1U, s2U]
  have L2 := Lib.hid (hl.still ((Turn.refl _ _).alloc (.cells #[.int .i64 0, .int .i64 0, .int .i64 0, .int .i64 0, .int .i64 0, .int .i64 0] 23)))
  clear hl ht
  go_wp2_with fail
  refine (HS.out _ _ _ _ _ _ _ _ sv_L0 rfl L2.out).mono ?_
  rintro e w3 ⟨rfl, S3, hs, hl⟩
  simp only [fdv, uv, zU, s1U, s2U]
  have A6 := Lib.hid (Bx.new hl s1U)
  have L3 := Lib.hid (hl.still ((Turn.refl _ _).alloc (.cells #[.int .i64 0, .int .i64 5, .int .i64 0, .int .i64 0, .int .i64 0, .int .i64 0] 23)))
  clear hl hs
  go_wp2_with fail
  refine (HS.out _ _ _ _ _ _ _ _ sv_L1 rfl L3.out).mono ?_
  rintro e w4 ⟨rfl, S4, hs, hl⟩
  simp only [fdv, uv, zU, s1U, s2U]
  have T4 := (Turn.refl (fun _ => False) w4).alloc (.cells #[.int .i64 1, .int .i64 6, .int .i64 0, .int .i64 0, .int .i64 0, .int .i64 0] 23)
  have B6 := Lib.hid ((A6.out.step hs).still T4)
  have B8 := Lib.hid (Bx.new hl s2U)
  have L4 := Lib.hid (hl.still T4)
  clear hl hs T4 A6
  go_wp2_with fail
  refine (HF.out _ _ _ _ _ f_L2 L4.out).mono ?_
  rintro e w5 ⟨rfl, ht, hl⟩
  simp only [fdv, uv, zU, s1U, s2U]
  have T5 := (Turn.refl (fun _ => False) w5).alloc (.cells #[.int .i64 1, .int .i64 6, .int .i64 0, .int .i64 0, .int .i64 0, .int .i64 0] 23)
  have C6 := Lib.hid ((B6.out.still ht).still T5)
  have C8 := Lib.hid ((B8.out.still ht).still T5)
  have C10 := Lib.hid (Bx.new hl s2U)
  have L5 := Lib.hid (hl.still T5)
  clear hl ht T5 B6 B8
  go_wp2_with fail
  refine (HA.out _ _ _ L5.out).mono ?_
  rintro e w6 ⟨rfl, S6, hs, hl⟩
  have D6 := Lib.hid (C6.out.step hs)
  have D8 := Lib.hid (C8.out.step hs)
  have D10 := Lib.hid (C10.out.step hs)
  have L6 := Lib.hid hl
  clear hl hs C6 C8 C10
  go_wp2_with fail
  refine (HS.out _ _ _ _ _ _ _ _ sv_L3 rfl L6.out).mono ?_
  rintro e w7 ⟨rfl, S7, hs, hl⟩
  simp only [fdv, uv, zU, s1U, s2U]
  have T7 := (Turn.refl (fun _ => False) w7).alloc (.cells #[.int .i64 0, .int .i64 0, .int .i64 0, .int .i64 0, .int .i64 0, .int .i64 0] 23)
  have E6 := Lib.hid ((D6.out.step hs).still T7)
  have E8 := Lib.hid ((D8.out.step hs).still T7)
  have E10 := Lib.hid ((D10.out.step hs).still T7)
  have L7 := Lib.hid (hl.still T7)
  clear hl hs T7 D6 D8 D10
  go_wp2_with fail
  refine (HC.out _ _ _ L7.out).mono ?_
  rintro e w8 ⟨rfl, S8, hs, hl⟩
  have F6 := Lib.hid (E6.out.step hs)
  have F8 := Lib.hid (E8.out.step hs)
  have F10 := Lib.hid (E10.out.step hs)
  have L8 := Lib.hid hl
  clear hl hs E6 E8 E10
  go_wp2_with fail
  refine (HF.out _ _ _ _ _ f_L2 L8.out).mono ?_
  rintro e w9 ⟨rfl, ht, hl⟩
  simp only [fdv, uv, zU, s1U, s2U]
  have T9 := (Turn.refl (fun _ => False) w9).alloc (.cells #[.int .i64 1, .int .i64 6, .int .i64 0, .int .i64 0, .int .i64 0, .int .i64 0] 23)
  have G6 := Lib.hid ((F6.out.still ht).still T9)
  have G8 := Lib.hid ((F8.out.still ht).still T9)
  have G10 := Lib.hid ((F10.out.still ht).still T9)
  have L9 := Lib.hid (hl.still T9)
  clear hl ht T9 F6 F8 F10
  obtain ⟨a0, a1, a2, a3, a4, a5⟩ := (blk6 G6.out.1).1
  obtain ⟨b0, b1, b2, b3, b4, b5⟩ := (blk6 G8.out.1).1
  obtain ⟨c0, c1, c2, c3, c4, c5⟩ := (blk6 G10.out.1).1
  simp only [s1U, s2U] at a0 a1 a2 a3 a4 a5 b0 b1 b2 b3 b4 b5 c0 c1 c2 c3 c4 c5
  go_wp2_with fail
  go_ret
  exact ⟨rfl, L9.out.t⟩
end Go.Proofs.Ytcjoinahelmmpaa
