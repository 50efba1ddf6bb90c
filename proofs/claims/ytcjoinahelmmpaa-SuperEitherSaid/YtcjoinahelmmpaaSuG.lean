/- Layer 11: the program's Find. -/
import Derived.Test.YtcjoinahelmmpaaSuF
import Derived.Test.YtcjoinahelmmpaaBlkK
namespace Go.Proofs.Ytcjoinahelmmpaa
open Go.RowKit
set_option linter.unusedVariables false
set_option linter.unusedSimpArgs false
set_option maxRecDepth 100000

def zU : Sup := ⟨0, 0, 0, 0, 0, 0⟩
/-- What is found so far, its place, and whether anything is. -/
structure Fd where
  s : Sup
  at_ : Int
  f : Int
deriving DecidableEq
def Fd.upd (x : Fd) (k : Nat) (o : Option Sup) : Fd := match o with
  | none => x
  | some s => if x.f = 4 ∨ x.s.g < s.g then ⟨s, k, 0⟩ else x
def fdk (D : Dsk) : Nat → Fd
  | 0 => ⟨zU, 0, 4⟩
  | k + 1 => (fdk D k).upd k (readU (D.has k))
def Dsk.find (D : Dsk) : Fd := if D.dead then ⟨zU, 0, 20⟩ else if D.kept.length < 2 then ⟨zU, 0, 6⟩ else fdk D 2
theorem Fd.upd_f {x : Fd} (h : x.f = 0 ∨ x.f = 4) (k : Nat) (o : Option Sup) : (x.upd k o).f = 0 ∨ (x.upd k o).f = 4 := by
  unfold Fd.upd
  split
  · exact h
  · split
    · exact .inl rfl
    · exact h
theorem fdk_f (D : Dsk) : ∀ k, (fdk D k).f = 0 ∨ (fdk D k).f = 4
  | 0 => .inr rfl
  | k + 1 => Fd.upd_f (fdk_f D k) k _
def cU (s : Sup) : List Value := [.int .i64 s.g, .int .i64 s.r, .int .i64 s.t, .int .i64 s.e, .int .i64 s.l, .int .i64 s.m]
/-- What Find answers. -/
def fdv (x : Fd) : Value := .tuple #[uv x.s, .int .i64 x.at_, .int .i64 x.f]
theorem sl_blkU {w : World} {g : Nat} {t : TypeId} {l : List UInt8} (h : Blk w g t (bv l)) (hl : l.length = 128) : Sl w w.heap.size (.slice (some ⟨g, 0, none⟩) 128 128) l := by
  have := slU h 0 128 128 (by omega) (by decide) (by decide) w.heap.size h.lt
  rwa [List.drop_zero, List.take_of_length_le (by omega)] at this
theorem find_bad {v : Value} (e : Int) (he : ¬ e = 0) (w : World) (HR : Hid (∀ W, Turn (fun _ => False) w W → Calls Try.prog 51 #[v, .int .i64 0] W fun r w' => r = .returned (.tuple #[.slice none 0 0, .int .i64 e]) ∧ W = w')) :
    Calls Try.prog 25 #[v] w fun r w' => r = .returned (fdv ⟨zU, 0, e⟩) ∧ Turn (fun _ => False) w w' := by
  have HT : Hid (Turn (fun _ => False) w ((w.alloc (.cells #[.int .i64 0, .int .i64 0, .int .i64 0, .int .i64 0, .int .i64 0, .int .i64 0] 23)).alloc (.cells #[.int .i64 0, .int .i64 0, .int .i64 0, .int .i64 0, .int .i64 0, .int .i64 0] 23))) := Lib.hid (((Turn.refl _ _).alloc _).alloc _)
  have K0 := Lib.hid ((Blk.new w 23 [.int .i64 0, .int .i64 0, .int .i64 0, .int .i64 0, .int .i64 0, .int .i64 0]).alloc (.cells #[.int .i64 0, .int .i64 0, .int .i64 0, .int .i64 0, .int .i64 0, .int .i64 0] 23))
  go_enter Try.func25, Try.ntmps25
  go_wp2_with fail
  go_loopw [12] (fun i W => i = .int .i64 0 ∧ W = ((w.alloc (.cells #[.int .i64 0, .int .i64 0, .int .i64 0, .int .i64 0, .int .i64 0, .int .i64 0] 23)).alloc (.cells #[.int .i64 0, .int .i64 0, .int .i64 0, .int .i64 0, .int .i64 0, .int .i64 0] 23))) (fun i _ => (2 - intOf i).toNat)
  case atStart => exact ⟨rfl, rfl⟩
  case round =>
    obtain ⟨rfl, hW⟩ := hrel
    rw [← hW] at HT K0
    clear hW
    obtain ⟨⟨q0, q1, q2, q3, q4, q5⟩, k0, k1_, k2, k3, k4, k5⟩ := blk6 K0.out
    go_wp2_with (go_at_call 51; (with_reducible refine (HR.out _ HT.out).mono ?_); rintro r w' ⟨rfl, rfl⟩)
    rw [put6_eq]
    have hf := K0.out.put6 (a' := .int .i64 0) (b' := .int .i64 0) (c' := .int .i64 0) (d' := .int .i64 0) (e' := .int .i64 0) (f' := .int .i64 0)
    have hT := HT.out.put6 (g := w.heap.size) (.inr (Nat.le_refl _)) (.int .i64 0) (.int .i64 0) (.int .i64 0) (.int .i64 0) (.int .i64 0) (.int .i64 0)
    generalize put6 wr w.heap.size (.int .i64 0) (.int .i64 0) (.int .i64 0) (.int .i64 0) (.int .i64 0) (.int .i64 0) = WF at *
    clear q0 q1 q2 q3 q4 q5 k0 k1_ k2 k3 k4 k5
    obtain ⟨e0, e1, e2, e3, e4, e5⟩ := (blk6 hf).1
    exact bodyPost_ret (v := .tuple #[.agg #[.int .i64 0, .int .i64 0, .int .i64 0, .int .i64 0, .int .i64 0, .int .i64 0], .int .i64 0, .int .i64 e]) (by simp [results, Try.results25, go_sem, e0, e1, e2, e3, e4, e5]) rfl ⟨rfl, hT⟩
/-- The state at the head of a round. -/
structure FdR (w : World) (D : Dsk) (k : Nat) (W : World) : Prop where
  t : Turn (fun _ => False) w W
  res : Blk W w.heap.size 23 [.int .i64 0, .int .i64 0, .int .i64 0, .int .i64 0, .int .i64 0, .int .i64 0]
  lat : Blk W (w.heap.size + 1) 23 (cU (fdk D k).s)
set_option maxHeartbeats 4000000 in
theorem find_in {S : Nat → Prop} {w : World} {p : Nat} {D : Dsk} (h : Dq S w p D) (hd : D.dead = false) :
    Calls Try.prog 25 #[.pointer (some ⟨p, 0, none⟩)] w fun r w' => r = .returned (fdv D.find) ∧ Turn (fun _ => False) w w' := by
  have H := Lib.hid h
  have HD := Lib.hid hd
  have hn0 : 0 < D.kept.length := h.1.pos
  have HL : Hid (∀ i, i < D.kept.length → (D.has i).length = 128) := Lib.hid (fun i hi => h.1.has_len hi)
  obtain ⟨n, hn⟩ : ∃ n, D.kept.length = n := ⟨_, rfl⟩
  have HN := Lib.hid hn
  rw [hn] at hn0 HL
  clear h hd hn
  go_enter Try.func25, Try.ntmps25
  go_wp2_with fail
  go_loopw [6, 7, 12] (fun a f i W => ∃ k : Nat, k ≤ 2 ∧ k ≤ n ∧ i = .int .i64 k ∧ a = .int .i64 (fdk D k).at_ ∧ f = .int .i64 (fdk D k).f ∧ FdR w D k W) (fun _ _ i _ => (2 - intOf i).toNat)
  case atStart => exact ⟨0, by omega, by omega, rfl, rfl, rfl, ⟨((Turn.refl _ _).alloc _).alloc _, (Blk.new w _ _).alloc _, Blk.new_ _ _ _ (by simp)⟩⟩
  case round =>
    obtain ⟨k, hk2, hkn, rfl, rfl, rfl, hR⟩ := hrel
    have HR := Lib.hid hR
    have HF := Lib.hid (fdk_f D k)
    clear hR
    obtain ⟨X, hX⟩ : ∃ X, fdk D k = X := ⟨_, rfl⟩
    have HNX : Hid (fdk D (k + 1) = X.upd k (readU (D.has k))) := Lib.hid (by rw [← hX]; rfl)
    have HX := Lib.hid hX
    have HT := Lib.hid HR.out.t
    have K0 := Lib.hid HR.out.res
    have B0 := Lib.hid HR.out.lat
    rw [hX] at HF B0 ⊢
    clear hX
    obtain ⟨⟨g, r, t, e, l, m⟩, aa, f⟩ := X
    unfold cU at B0
    simp only at HF B0 ⊢
    have hz := B0.out.lt
    by_cases hk : k < 2
    · have hk' : (k : Int) < 2 := by omega
      have hk0 : (0 : Int) ≤ (k : Int) := by omega
      by_cases hki : k < n
      · have RD := Lib.hid (read_dq (H.out.still HT.out) k (by rw [HN.out]; exact hki) HD.out)
        have HRU : Hid (∀ W, Blk W wr.heap.size 95 (bv (D.has k)) → Calls Try.prog 15 #[.slice (some ⟨wr.heap.size, 0, none⟩) 128 128] W fun e w' => e = .returned (rdU (readU (D.has k))) ∧ Turn (fun _ => False) W w') := Lib.hid (fun W hb => readU_any _ _ W (sl_blkU hb (HL.out k hki)))
        obtain ⟨o, ho⟩ : ∃ o, readU (D.has k) = o := ⟨_, rfl⟩
        rw [ho] at HRU HNX
        clear ho
        cases o with
        | none =>
          unfold rdU at HRU
          simp only at HRU
          go_wp2_with (first
            | (go_at_call 51; (with_reducible refine RD.out.mono ?_); rintro e1 w1 ⟨rfl, hb, ht⟩; have Q1 := Lib.hid hb; have T1 := Lib.hid ht; clear hb ht)
            | (go_at_call 15; (with_reducible refine (HRU.out _ Q1.out).mono ?_); rintro e2 w2 ⟨rfl, ht⟩; have T2 := Lib.hid (T1.out.trans ht); clear ht))
          go_roundw
          case rel => exact ⟨k + 1, by omega, by omega, by go_num, by rw [HNX.out]; rfl, by rw [HNX.out]; rfl, ⟨(HT.out.trans T2.out).alloc _, (K0.out.turn T2.out (fun h => h)).alloc _, by rw [HNX.out]; exact (B0.out.turn T2.out (fun h => h)).alloc _⟩⟩
          case measure => simp [intOf]; omega
        | some s =>
          obtain ⟨g', r', t', e', l', m'⟩ := s
          unfold rdU uv at HRU
          simp only at HRU
          rcases HF.out with rfl | rfl
          · by_cases hgg : g < g'
            · have HU : Hid (fdk D (k + 1) = ⟨⟨g', r', t', e', l', m'⟩, k, 0⟩) := Lib.hid (by rw [HNX.out]; exact if_pos (Or.inr hgg))
              go_wp2_with (first
                | (go_at_call 51; (with_reducible refine RD.out.mono ?_); rintro e1 w1 ⟨rfl, hb, ht⟩; have Q1 := Lib.hid hb; have T1 := Lib.hid ht; clear hb ht)
                | (go_at_call 15; (with_reducible refine (HRU.out _ Q1.out).mono ?_); rintro e2 w2 ⟨rfl, ht⟩; have T2 := Lib.hid (T1.out.trans ht); clear ht; have B2 := Lib.hid (B0.out.turn T2.out (fun h => h)); obtain ⟨⟨q0, q1, q2, q3, q4, q5⟩, k0, k1_, k2, k3, k4, k5⟩ := blk6 B2.out; have hz2 : w.heap.size + 1 < w2.heap.size := B2.out.lt))
              go_roundw
              case rel => exact ⟨k + 1, by omega, by omega, by go_num, by rw [HU.out], by rw [HU.out], ⟨((HT.out.trans T2.out).put6 (.inr (by omega)) _ _ _ _ _ _).alloc _, ((K0.out.turn T2.out (fun h => h)).far6 (by omega) _ _ _ _ _ _).alloc _, by rw [HU.out]; exact B2.out.put6.alloc _⟩⟩
              case measure => simp [intOf]; omega
            · have HU : Hid (fdk D (k + 1) = ⟨⟨g, r, t, e, l, m⟩, aa, 0⟩) := Lib.hid (by rw [HNX.out]; exact if_neg (fun h => h.elim (fun h => by cases h) hgg))
              have hg2 : g' ≤ g := by omega
              have hg3 : decide (g < g') = false := decide_eq_false hgg
              go_wp2_with (first
              | (go_at_call 51; (with_reducible refine RD.out.mono ?_); rintro e1 w1 ⟨rfl, hb, ht⟩; have Q1 := Lib.hid hb; have T1 := Lib.hid ht; clear hb ht)
              | (go_at_call 15; (with_reducible refine (HRU.out _ Q1.out).mono ?_); rintro e2 w2 ⟨rfl, ht⟩; have T2 := Lib.hid (T1.out.trans ht); clear ht; have B2 := Lib.hid (B0.out.turn T2.out (fun h => h)); obtain ⟨⟨q0, q1, q2, q3, q4, q5⟩, k0, k1_, k2, k3, k4, k5⟩ := blk6 B2.out; have hz2 : w.heap.size + 1 < w2.heap.size := B2.out.lt))
              go_roundw
              case rel => exact ⟨k + 1, by omega, by omega, by go_num, by rw [HU.out], by rw [HU.out], ⟨(HT.out.trans T2.out).alloc _, (K0.out.turn T2.out (fun h => h)).alloc _, by rw [HU.out]; exact B2.out.alloc _⟩⟩
              case measure => simp [intOf]; omega
          · have HU : Hid (fdk D (k + 1) = ⟨⟨g', r', t', e', l', m'⟩, k, 0⟩) := Lib.hid (by rw [HNX.out]; unfold Fd.upd; simp only; rw [if_pos (Or.inl (by trivial))])
            go_wp2_with (first
              | (go_at_call 51; (with_reducible refine RD.out.mono ?_); rintro e1 w1 ⟨rfl, hb, ht⟩; have Q1 := Lib.hid hb; have T1 := Lib.hid ht; clear hb ht)
              | (go_at_call 15; (with_reducible refine (HRU.out _ Q1.out).mono ?_); rintro e2 w2 ⟨rfl, ht⟩; have T2 := Lib.hid (T1.out.trans ht); clear ht; have B2 := Lib.hid (B0.out.turn T2.out (fun h => h)); obtain ⟨⟨q0, q1, q2, q3, q4, q5⟩, k0, k1_, k2, k3, k4, k5⟩ := blk6 B2.out; have hz2 : w.heap.size + 1 < w2.heap.size := B2.out.lt))
            go_roundw
            case rel => exact ⟨k + 1, by omega, by omega, by go_num, by rw [HU.out], by rw [HU.out], ⟨((HT.out.trans T2.out).put6 (.inr (by omega)) _ _ _ _ _ _).alloc _, ((K0.out.turn T2.out (fun h => h)).far6 (by omega) _ _ _ _ _ _).alloc _, by rw [HU.out]; exact B2.out.put6.alloc _⟩⟩
            case measure => simp [intOf]; omega
      · have RE := Lib.hid (readErr_dq (H.out.still HT.out) (k : Int) (.inr (.inr (by rw [HN.out]; omega))))
        rw [HD.out, if_neg (by simp)] at RE
        have HFD : Hid (D.find = ⟨zU, 0, 6⟩) := Lib.hid (by unfold Dsk.find; rw [HD.out, if_neg (by simp), if_pos (by rw [HN.out]; omega)])
        obtain ⟨⟨q0, q1, q2, q3, q4, q5⟩, k0, k1_, k2, k3, k4, k5⟩ := blk6 K0.out
        go_wp2_with (go_at_call 51; (with_reducible refine RE.out.mono ?_); rintro e1 w1 ⟨rfl, rfl⟩)
        rw [put6_eq]
        have hf := K0.out.put6 (a' := .int .i64 0) (b' := .int .i64 0) (c' := .int .i64 0) (d' := .int .i64 0) (e' := .int .i64 0) (f' := .int .i64 0)
        have hT := HT.out.put6 (g := w.heap.size) (.inr (Nat.le_refl _)) (.int .i64 0) (.int .i64 0) (.int .i64 0) (.int .i64 0) (.int .i64 0) (.int .i64 0)
        generalize put6 wr w.heap.size (.int .i64 0) (.int .i64 0) (.int .i64 0) (.int .i64 0) (.int .i64 0) (.int .i64 0) = WF at *
        clear q0 q1 q2 q3 q4 q5 k0 k1_ k2 k3 k4 k5
        obtain ⟨e0, e1, e2, e3, e4, e5⟩ := (blk6 hf).1
        exact bodyPost_ret (v := .tuple #[.agg #[.int .i64 0, .int .i64 0, .int .i64 0, .int .i64 0, .int .i64 0, .int .i64 0], .int .i64 0, .int .i64 6]) (by simp [results, Try.results25, go_sem, e0, e1, e2, e3, e4, e5]) rfl ⟨by rw [HFD.out]; rfl, hT⟩
    · obtain rfl : k = 2 := by omega
      have HFD : Hid (D.find = ⟨⟨g, r, t, e, l, m⟩, aa, f⟩) := Lib.hid (by unfold Dsk.find; rw [HD.out, if_neg (by simp), if_neg (by rw [HN.out]; omega)]; exact HX.out)
      clear HNX HX
      obtain ⟨⟨q0, q1, q2, q3, q4, q5⟩, k0, k1_, k2, k3, k4, k5⟩ := blk6 K0.out
      obtain ⟨p0, p1, p2, p3, p4, p5⟩ := (blk6 B0.out).1
      go_wp2
      rw [put6_eq]
      have hf := K0.out.put6 (a' := .int .i64 g) (b' := .int .i64 r) (c' := .int .i64 t) (d' := .int .i64 e) (e' := .int .i64 l) (f' := .int .i64 m)
      have hT := HT.out.put6 (g := w.heap.size) (.inr (Nat.le_refl _)) (.int .i64 g) (.int .i64 r) (.int .i64 t) (.int .i64 e) (.int .i64 l) (.int .i64 m)
      generalize put6 wr w.heap.size (.int .i64 g) (.int .i64 r) (.int .i64 t) (.int .i64 e) (.int .i64 l) (.int .i64 m) = WF at *
      clear q0 q1 q2 q3 q4 q5 k0 k1_ k2 k3 k4 k5 p0 p1 p2 p3 p4 p5
      obtain ⟨e0, e1, e2, e3, e4, e5⟩ := (blk6 hf).1
      exact bodyPost_ret (v := .tuple #[.agg #[.int .i64 g, .int .i64 r, .int .i64 t, .int .i64 e, .int .i64 l, .int .i64 m], .int .i64 aa, .int .i64 f]) (by simp [results, Try.results25, go_sem, e0, e1, e2, e3, e4, e5]) rfl ⟨by rw [HFD.out]; rfl, hT⟩
theorem find_dq {S : Nat → Prop} {w : World} {p : Nat} {D : Dsk} (h : Dq S w p D) :
    Calls Try.prog 25 #[.pointer (some ⟨p, 0, none⟩)] w fun r w' => r = .returned (fdv D.find) ∧ Turn (fun _ => False) w w' := by
  cases hd : D.dead with
  | false => exact find_in h hd
  | true =>
    have := find_bad (v := .pointer (some ⟨p, 0, none⟩)) 20 (by decide) w (Lib.hid (fun W ht => by
      have := readErr_dq (h.still ht) 0 (.inl hd)
      rw [hd, if_pos rfl] at this
      exact this))
    rwa [show D.find = ⟨zU, 0, 20⟩ from by unfold Dsk.find; rw [hd, if_pos rfl]]
theorem find_nod {w : World} {v : Value} (h : ∀ W, Turn (fun _ => False) w W → Nod W v) :
    Calls Try.prog 25 #[v] w fun r w' => r = .returned (fdv ⟨zU, 0, 1⟩) ∧ Turn (fun _ => False) w w' :=
  find_bad (v := v) 1 (by decide) w (Lib.hid (fun W ht => read_nod (h W ht) 0))
end Go.Proofs.Ytcjoinahelmmpaa
