/- Layer 11: the elder super, or the new one, plain. -/
import Derived.Test.YtcjoinahelmmpaaSuI
import Derived.Test.YtcjoinahelmmpaaBlkW
namespace Go.Proofs.Ytcjoinahelmmpaa
open Go.RowKit
set_option linter.unusedVariables false
set_option linter.unusedSimpArgs false

/-- A disk on which nothing is pending, with a fuse. -/
def dskF (K : List (List UInt8)) (F : Int) : Dsk := ⟨K, [], F, false⟩
/-- What the first two sectors tell. -/
def Two (K : List (List UInt8)) : Option Sup → Prop
  | none => readU (K.getD 0 []) = none ∧ readU (K.getD 1 []) = none
  | some s => (s.g % 2 = 0 ∧ readU (K.getD 0 []) = some s ∧ ∀ y, readU (K.getD 1 []) = some y → y.g < s.g) ∨ (s.g % 2 = 1 ∧ readU (K.getD 1 []) = some s ∧ ∀ y, readU (K.getD 0 []) = some y → y.g < s.g)
/-- What Find tells then. -/
def fdo : Option Sup → Fd
  | none => ⟨zU, 0, 4⟩
  | some s => ⟨s, s.g % 2, 0⟩
theorem find_F (K : List (List UInt8)) (F : Int) (hK : 2 ≤ K.length) : (dskF K F).find = ((⟨zU, 0, 4⟩ : Fd).upd 0 (readU (K.getD 0 []))).upd 1 (readU (K.getD 1 [])) := by
  unfold Dsk.find
  rw [if_neg (by simp [dskF]), if_neg (by simp [dskF]; omega)]
  rfl
theorem find_two {K : List (List UInt8)} {o : Option Sup} (h : Two K o) (F : Int) (hK : 2 ≤ K.length) : (dskF K F).find = fdo o := by
  rw [find_F K F hK]
  cases o with
  | none => rw [h.1, h.2]; rfl
  | some s =>
    rcases h with ⟨h1, h2, h3⟩ | ⟨h1, h2, h3⟩
    · rw [h2]
      have e1 : (⟨zU, 0, 4⟩ : Fd).upd 0 (some s) = ⟨s, 0, 0⟩ := by unfold Fd.upd; simp
      rw [e1]
      cases hy : readU (K.getD 1 []) with
      | none => unfold fdo Fd.upd; simp [h1]
      | some y =>
        have := h3 y hy
        unfold fdo Fd.upd
        simp only
        rw [if_neg (by simp; omega), h1]
    · rw [h2]
      cases hy : readU (K.getD 0 []) with
      | none => unfold fdo Fd.upd; simp [h1]
      | some y =>
        have := h3 y hy
        have e1 : (⟨zU, 0, 4⟩ : Fd).upd 0 (some y) = ⟨y, 0, 0⟩ := by unfold Fd.upd; simp
        rw [e1]
        unfold fdo Fd.upd
        simp only
        rw [if_pos (.inr this), h1]
        rfl
/-- The Gen of the next one. -/
def gnx : Option Sup → Int
  | none => 0
  | some s => s.g + 1
theorem getD_set {K : List (List UInt8)} {i j : Nat} (x : List UInt8) (hi : i < K.length) : (K.set i x).getD j [] = if i = j then x else K.getD j [] := by
  rw [List.getD_eq_getElem?_getD, List.getElem?_set]
  split
  · rename_i h; subst h; simp [hi]
  · rw [List.getD_eq_getElem?_getD]
theorem two_set {K : List (List UInt8)} {o : Option Sup} (h : Two K o) (hK : 2 ≤ K.length) (s : Sup) (hr : rU s = true) (hg : s.g = gnx o) (i : Nat) (hi : (i : Int) = s.g % 2) : Two (K.set i (putU s)) (some s) := by
  have hi2 : i < 2 := by omega
  have hp := readU_put hr
  unfold Two
  rw [getD_set _ (by omega), getD_set _ (by omega)]
  by_cases h0 : i = 0
  · subst h0
    rw [if_pos rfl, if_neg (by decide)]
    refine .inl ⟨by omega, hp, fun y hy => ?_⟩
    cases o with
    | none => rw [h.2] at hy; cases hy
    | some s0 =>
      simp only [gnx] at hg
      rcases h with ⟨h1, h2, h3⟩ | ⟨h1, h2, h3⟩
      · exact absurd h1 (by omega)
      · rw [h2] at hy; cases hy; omega
  · have h1 : i = 1 := by omega
    subst h1
    rw [if_neg (by decide), if_pos rfl]
    refine .inr ⟨by omega, hp, fun y hy => ?_⟩
    cases o with
    | none => rw [h.1] at hy; cases hy
    | some s0 =>
      simp only [gnx] at hg
      rcases h with ⟨h1, h2, h3⟩ | ⟨h1, h2, h3⟩
      · rw [h2] at hy; cases hy; omega
      · exact absurd h1 (by omega)
theorem two_fresh (n : Nat) : Two (List.replicate n zeros) none ∨ n < 2 := by
  by_cases h : n < 2
  · exact .inr h
  · refine .inl ⟨?_, ?_⟩
    · rw [List.getD_eq_getElem?_getD, List.getElem?_replicate, if_pos (by omega)]; exact rd_zeros
    · rw [List.getD_eq_getElem?_getD, List.getElem?_replicate, if_pos (by omega)]; exact rd_zeros
theorem nxt_fdo {o : Option Sup} (h : ∀ s, o = some s → rU s = true ∧ s.g < 1152921504606846976) : nxt (fdo o) = (gnx o, 0) := by
  cases o with
  | none => rfl
  | some s =>
    have := h s rfl
    unfold nxt fdo gnx
    simp only
    rw [if_neg (by decide), if_pos trivial, if_neg (by omega)]
/-- Save, and a crash behind it: the elder one, or the new one. -/
theorem save_either {K : List (List UInt8)} {o : Option Sup} (h : Two K o) (hK : 2 ≤ K.length) (ho : ∀ s, o = some s → rU s = true ∧ s.g < 1152921504606846976) (s : Sup) (hr : rU s = true) (hg : gnx o ≤ 1152921504606846976) (F : Int) (hF : -1 ≤ F) (zs : List Int) :
    ∃ (D : Dsk) (K' : List (List UInt8)) (o' : Option Sup) (sv : Sup) (e : Int), (dskF K F).save s = (D, sv, e) ∧ D.pend.length ≤ 1 ∧ D.crashed zs = dskF K' (-1) ∧ K'.length = K.length ∧ Two K' o' ∧
      ((e = 0 ∧ sv = s.gen (gnx o) ∧ o' = some (s.gen (gnx o))) ∨ (e = 20 ∧ sv = zU ∧ (o' = o ∨ o' = some (s.gen (gnx o))))) := by
  have hfd := find_two h F hK
  have hnx := nxt_fdo ho
  have hg0 : 0 ≤ gnx o := by
    cases o with
    | none => simp [gnx]
    | some s0 => have := rU_yes (ho s0 rfl).1; simp only [gnx]; omega
  obtain ⟨G, hG⟩ : ∃ G, gnx o = G := ⟨_, rfl⟩
  rw [hG] at hnx hg hg0 ⊢
  have hr' : rU (s.gen G) = true := by
    have := rU_yes hr
    exact decide_eq_true ⟨hg0, hg, this.2.2⟩
  obtain ⟨i, hi⟩ : ∃ i : Nat, (i : Int) = G % 2 := ⟨(G % 2).toNat, by omega⟩
  have hi2 : i < 2 := by omega
  have h2 := two_set h hK (s.gen G) hr' hG.symm i hi
  have hsv : (dskF K F).save s = if ((dskF K F).wf i (putU (s.gen G))).2 = 0 then (((dskF K F).wf i (putU (s.gen G))).1, s.gen G, 0) else (((dskF K F).wf i (putU (s.gen G))).1, zU, ((dskF K F).wf i (putU (s.gen G))).2) := by
    unfold Dsk.save
    rw [hfd, hnx]
    simp only
    rw [if_pos trivial, if_pos hr', hi]
  have hlen : (putU (s.gen G)).length = 128 := len_putU _
  by_cases h0 : F = 0
  · subst h0
    have hw : (dskF K 0).write i (putU (s.gen G)) = (⟨K, [], 0, true⟩, 20) := by
      unfold Dsk.write
      rw [if_neg (by simp [dskF]), if_neg (by simp [dskF]; omega), if_neg (by omega), if_pos (by simp [dskF])]
      simp [Dsk.burnt, dskF]
    have hwf : (dskF K 0).wf i (putU (s.gen G)) = (⟨K, [], 0, true⟩, 20) := by unfold Dsk.wf; rw [hw]; rfl
    rw [hwf] at hsv
    refine ⟨_, K, o, zU, 20, hsv, by simp, ?_, rfl, h, .inr ⟨rfl, rfl, .inl rfl⟩⟩
    simp [Dsk.crashed, Dsk.keepAll, Dsk.lost, dskF, sel]
  · have hw : (dskF K F).write i (putU (s.gen G)) = (⟨K, [(i, putU (s.gen G))], if 0 < F then F - 1 else F, false⟩, 0) := by
      unfold Dsk.write
      rw [if_neg (by simp [dskF]), if_neg (by simp [dskF]; omega), if_neg (by omega), if_neg (by simp [dskF]; exact h0)]
      unfold Dsk.wrote Dsk.burnt
      rw [if_neg (by simp [dskF]; exact h0), full_put, Int.toNat_natCast]
      by_cases h1 : 0 < F
      · rw [if_pos (by simp [dskF]; exact h1), if_pos h1]; rfl
      · rw [if_neg (by simp [dskF]; omega), if_neg h1]; rfl
    by_cases h1 : F = 1
    · subst h1
      have hwf : (dskF K 1).wf i (putU (s.gen G)) = (⟨K, [(i, putU (s.gen G))], 0, true⟩, 20) := by
        unfold Dsk.wf
        rw [hw]
        simp only [if_true]
        unfold Dsk.flush Dsk.burnt
        simp
      rw [hwf] at hsv
      by_cases hz : isIn zs 0 = true
      · refine ⟨_, K.set i (putU (s.gen G)), some (s.gen G), zU, 20, hsv, by simp, ?_, by simp, h2, .inr ⟨rfl, rfl, .inr rfl⟩⟩
        simp [Dsk.crashed, Dsk.keepAll, Dsk.keepW, Dsk.lost, dskF, sel, hz]
      · have hz' : isIn zs 0 = false := by simpa using hz
        refine ⟨_, K, o, zU, 20, hsv, by simp, ?_, rfl, h, .inr ⟨rfl, rfl, .inl rfl⟩⟩
        simp [Dsk.crashed, Dsk.keepAll, Dsk.lost, dskF, sel, hz']
    · obtain ⟨F1, hF1⟩ : ∃ F1, (if 0 < F then F - 1 else F) = F1 := ⟨_, rfl⟩
      have hF0 : ¬ F1 = 0 := by rw [← hF1]; split <;> omega
      rw [hF1] at hw
      have hwf : (dskF K F).wf i (putU (s.gen G)) = (⟨K.set i (putU (s.gen G)), [], if 0 < F1 then F1 - 1 else F1, false⟩, 0) := by
        unfold Dsk.wf
        rw [hw]
        simp only [if_true]
        unfold Dsk.flush
        rw [if_neg (by simp), if_neg hF0]
        unfold Dsk.flushed Dsk.burnt
        rw [if_neg hF0]
        by_cases h3 : 0 < F1
        · rw [if_pos h3, if_pos h3]; simp [Dsk.keepAll, Dsk.keepW, Dsk.lost]
        · rw [if_neg h3, if_neg h3]; simp [Dsk.keepAll, Dsk.keepW, Dsk.lost]
      rw [hwf] at hsv
      refine ⟨_, K.set i (putU (s.gen G)), some (s.gen G), s.gen G, 0, hsv, by simp, ?_, by simp, h2, .inl ⟨rfl, rfl, rfl⟩⟩
      simp [Dsk.crashed, Dsk.keepAll, Dsk.lost, dskF, sel]
end Go.Proofs.Ytcjoinahelmmpaa
/- Layer 11: the document's Find, over the document's disk. -/
namespace Go.Proofs.Ytcjoinahelmmpaa
open Go.RowKit
set_option linter.unusedVariables false
set_option linter.unusedSimpArgs false
set_option maxRecDepth 100000

theorem blk5 {w : World} {g : Nat} {t : TypeId} {a b c d e : Value} (h : Blk w g t [a, b, c, d, e]) :
    (w.cell? ⟨g, 0, none⟩ = some a ∧ w.cell? ⟨g, 1, none⟩ = some b ∧ w.cell? ⟨g, 2, none⟩ = some c ∧ w.cell? ⟨g, 3, none⟩ = some d ∧ w.cell? ⟨g, 4, none⟩ = some e) ∧
    (w.frozen? ⟨g, 0, none⟩ = false ∧ w.frozen? ⟨g, 1, none⟩ = false ∧ w.frozen? ⟨g, 2, none⟩ = false ∧ w.frozen? ⟨g, 3, none⟩ = false ∧ w.frozen? ⟨g, 4, none⟩ = false) :=
  ⟨⟨h.cell 0, h.cell 1, h.cell 2, h.cell 3, h.cell 4⟩, h.free 0, h.free 1, h.free 2, h.free 3, h.free 4⟩
def pu5 (w : World) (g : Nat) (a b c d e : Value) : World := ((((w.setCell ⟨g, 0, none⟩ a).setCell ⟨g, 1, none⟩ b).setCell ⟨g, 2, none⟩ c).setCell ⟨g, 3, none⟩ d).setCell ⟨g, 4, none⟩ e
theorem pu5_eq (w : World) (g : Nat) (a b c d e : Value) : ((((w.setCell ⟨g, 0, none⟩ a).setCell ⟨g, 1, none⟩ b).setCell ⟨g, 2, none⟩ c).setCell ⟨g, 3, none⟩ d).setCell ⟨g, 4, none⟩ e = pu5 w g a b c d e := rfl
theorem Blk.pu5 {w : World} {g : Nat} {t : TypeId} {a b c d e a' b' c' d' e' : Value} (h : Blk w g t [a, b, c, d, e]) : Blk (pu5 w g a' b' c' d' e') g t [a', b', c', d', e'] :=
  ((((h.put 0 a').put 1 b').put 2 c').put 3 d').put 4 e'
theorem Turn.pu5 {S : Nat → Prop} {w w' : World} (h : Turn S w w') {g : Nat} (hg : S g ∨ w.heap.size ≤ g) (a b c d e : Value) : Turn S w (pu5 w' g a b c d e) :=
  ((((h.setCell (p := ⟨g, 0, none⟩) hg a).setCell (p := ⟨g, 1, none⟩) hg b).setCell (p := ⟨g, 2, none⟩) hg c).setCell (p := ⟨g, 3, none⟩) hg d).setCell (p := ⟨g, 4, none⟩) hg e
/-- What Find tells of the two sectors' supers. -/
def fd2 (o0 o1 : Option Sup) : Fd := ((⟨zU, 0, 4⟩ : Fd).upd 0 o0).upd 1 o1
theorem find_in2 {D : Dsk} (hd : D.dead = false) (hn : 2 ≤ D.kept.length) : D.find = fd2 (readU (D.has 0)) (readU (D.has 1)) := by
  unfold Dsk.find
  rw [if_neg (by simp [hd]), if_neg (by omega)]
  rfl
theorem fd2_nn : fd2 none none = ⟨zU, 0, 4⟩ := rfl
theorem fd2_sn (x : Sup) : fd2 (some x) none = ⟨x, 0, 0⟩ := by unfold fd2 Fd.upd; simp
theorem fd2_ns (y : Sup) : fd2 none (some y) = ⟨y, 1, 0⟩ := by unfold fd2 Fd.upd; simp
theorem fd2_yes (x y : Sup) (h : x.g < y.g) : fd2 (some x) (some y) = ⟨y, 1, 0⟩ := by unfold fd2 Fd.upd; simp [h]
theorem fd2_no (x y : Sup) (h : ¬ x.g < y.g) : fd2 (some x) (some y) = ⟨x, 0, 0⟩ := by unfold fd2 Fd.upd; simp [h]
set_option maxHeartbeats 4000000 in
theorem refFind_rm {w : World} {D : Dsk} {ks : List (List UInt8)} {A B : Option Addr} {c d : Nat} (h : Rm w D ks A c B d) (ok : D.Ok) (hp : D.pend.length ≤ 1000000) :
    Calls Try.prog 26 #[rd D ks A c B d] w fun r w' => r = .returned (fdv D.find) ∧ Turn (fun _ => False) w w' := by
  have H := Lib.hid h
  have hn0 : 0 < D.kept.length := ok.pos
  have HN : Hid (D.kept.length ≤ 16384) := Lib.hid ok.most
  have K0 := Lib.hid ((Blk.new w 46 [.int .i64 (D.kept.length : Int), .slice A ks.length c, .slice B D.pend.length d, .int .i64 D.fuse, .bool D.dead]).alloc (.cells #[.int .i64 0, .int .i64 0, .int .i64 0, .int .i64 0, .int .i64 0, .int .i64 0] 23))
  have K1 := Lib.hid (Blk.new_ (w.alloc (.cells #[.int .i64 (D.kept.length : Int), .slice A ks.length c, .slice B D.pend.length d, .int .i64 D.fuse, .bool D.dead] 46)) 23 [.int .i64 0, .int .i64 0, .int .i64 0, .int .i64 0, .int .i64 0, .int .i64 0] (k := w.heap.size + 1) (by simp))
  have T0 := Lib.hid (((Turn.refl (fun _ => False) w).alloc (.cells #[.int .i64 (D.kept.length : Int), .slice A ks.length c, .slice B D.pend.length d, .int .i64 D.fuse, .bool D.dead] 46)).alloc (.cells #[.int .i64 0, .int .i64 0, .int .i64 0, .int .i64 0, .int .i64 0, .int .i64 0] 23))
  have HE : Hid (∀ (i : Int) (e : Int) W, (D.dead = true ∧ e = 20 ∨ D.dead = false ∧ (D.kept.length : Int) ≤ i ∧ e = 6) → Calls Try.prog 52 #[rd D ks A c B d, .int .i64 i] W fun r w' => r = .returned (.tuple #[.string ⟨#[]⟩, .int .i64 e]) ∧ Turn (fun _ => False) W w') := Lib.hid (fun i e W hb => by
    have := readRef_err (D.kept.length : Int) A B ks.length c D.pend.length d D.fuse D.dead i (by rcases hb with ⟨h, _⟩ | ⟨_, h, _⟩; exact .inl h; exact .inr (.inr h)) W
    rcases hb with ⟨h, rfl⟩ | ⟨h, _, rfl⟩
    · rw [h, if_pos rfl] at this; unfold rd; rw [h]; exact this
    · rw [h, if_neg (by simp)] at this; unfold rd; rw [h]; exact this)
  have HG : Hid (∀ (i : Nat) W, D.dead = false → i < D.kept.length → Turn (fun _ => False) w W → Calls Try.prog 52 #[rd D ks A c B d, .int .i64 i] W fun r w' => r = .returned (.tuple #[.string ⟨(D.has i).toArray⟩, .int .i64 0]) ∧ Turn (fun _ => False) W w') := Lib.hid (fun i W hd hi ht => by
    have := readRef_r (H.out.still ht) i hi (by omega) D.fuse
    unfold rd; rw [hd]; exact this)
  unfold rd at *
  by_cases hd : D.dead = true
  · have HF : Hid (D.find = ⟨zU, 0, 20⟩) := Lib.hid (by unfold Dsk.find; rw [hd, if_pos rfl])
    have R0 := Lib.hid (fun W => HE.out 0 20 W (.inl ⟨hd, rfl⟩))
    rw [HF.out]
    clear HE HG HF hd
    try clear hd'
    go_enter Try.func26, Try.ntmps26
    go_wp2_with fail
    refine (R0.out _).mono ?_
    rintro e1 w1 ⟨rfl, ht⟩
    have K2 := Lib.hid (K1.out.turn ht (fun h => h))
    have T1 := Lib.hid (T0.out.trans ht)
    clear ht
    obtain ⟨⟨q0, q1, q2, q3, q4, q5⟩, k0, k1_, k2, k3, k4, k5⟩ := blk6 K2.out
    go_wp2_with fail
    rw [put6_eq]
    have hf := (K2.out.put6 (a' := .int .i64 0) (b' := .int .i64 0) (c' := .int .i64 0) (d' := .int .i64 0) (e' := .int .i64 0) (f' := .int .i64 0))
    have hT := (T1.out.put6 (g := w.heap.size + 1) (.inr (Nat.le_succ _)) (.int .i64 0) (.int .i64 0) (.int .i64 0) (.int .i64 0) (.int .i64 0) (.int .i64 0))
    generalize (put6 w1 (w.heap.size + 1) (.int .i64 0) (.int .i64 0) (.int .i64 0) (.int .i64 0) (.int .i64 0) (.int .i64 0)) = WF at *
    clear q0 q1 q2 q3 q4 q5 k0 k1_ k2 k3 k4 k5
    obtain ⟨e0, e1, e2, e3, e4, e5⟩ := (blk6 hf).1
    exact bodyPost_ret (v := .tuple #[.agg #[.int .i64 0, .int .i64 0, .int .i64 0, .int .i64 0, .int .i64 0, .int .i64 0], .int .i64 0, .int .i64 20]) (by simp [results, Try.results26, go_sem, e0, e1, e2, e3, e4, e5]) rfl ⟨rfl, hT⟩
  have hd' : D.dead = false := by simpa using hd
  have R0 := Lib.hid (fun W => HG.out 0 W hd' hn0)
  by_cases hn : 2 ≤ D.kept.length
  · have HF := Lib.hid (find_in2 hd' hn)
    have R1 := Lib.hid (fun W => HG.out 1 W hd' (by omega))
    have X0 := Lib.hid (fun W => refReadU_any ⟨(D.has 0).toArray⟩ _ rfl W)
    have X1 := Lib.hid (fun W => refReadU_any ⟨(D.has 1).toArray⟩ _ rfl W)
    obtain ⟨P0, hP0⟩ : ∃ P : ByteArray, ⟨(D.has 0).toArray⟩ = P := ⟨_, rfl⟩
    obtain ⟨P1, hP1⟩ : ∃ P : ByteArray, ⟨(D.has 1).toArray⟩ = P := ⟨_, rfl⟩
    rw [hP0] at R0 X0
    rw [hP1] at R1 X1
    obtain ⟨o0, ho0⟩ : ∃ o, readU (D.has 0) = o := ⟨_, rfl⟩
    obtain ⟨o1, ho1⟩ : ∃ o, readU (D.has 1) = o := ⟨_, rfl⟩
    rw [ho0] at X0 HF
    rw [ho1] at X1 HF
    rw [HF.out]
    clear HE HG HF hP0 hP1 ho0 ho1 hd hd'
    obtain ⟨x, ex, hx, hox⟩ : ∃ (x : Sup) (ex : Int), rdU o0 = .tuple #[uv x, .int .i64 ex] ∧ ((o0 = none ∧ ex = 4 ∧ x = zU) ∨ (o0 = some x ∧ ex = 0)) := by
      cases o0 with
      | none => exact ⟨zU, 4, rfl, .inl ⟨rfl, rfl, rfl⟩⟩
      | some x => exact ⟨x, 0, rfl, .inr ⟨rfl, rfl⟩⟩
    obtain ⟨y, ey, hy, hoy⟩ : ∃ (y : Sup) (ey : Int), rdU o1 = .tuple #[uv y, .int .i64 ey] ∧ ((o1 = none ∧ ey = 4 ∧ y = zU) ∨ (o1 = some y ∧ ey = 0)) := by
      cases o1 with
      | none => exact ⟨zU, 4, rfl, .inl ⟨rfl, rfl, rfl⟩⟩
      | some y => exact ⟨y, 0, rfl, .inr ⟨rfl, rfl⟩⟩
    rw [hx] at X0
    rw [hy] at X1
    clear hx hy
    have key : (ex = 4 ∧ ey = 4 ∧ fd2 o0 o1 = ⟨zU, 0, 4⟩) ∨ (ex = 4 ∧ ey = 0 ∧ fd2 o0 o1 = ⟨y, 1, 0⟩) ∨ (ex = 0 ∧ ey = 4 ∧ fd2 o0 o1 = ⟨x, 0, 0⟩) ∨ (ex = 0 ∧ ey = 0 ∧ x.g < y.g ∧ fd2 o0 o1 = ⟨y, 1, 0⟩) ∨ (ex = 0 ∧ ey = 0 ∧ ¬ x.g < y.g ∧ fd2 o0 o1 = ⟨x, 0, 0⟩) := by
      rcases hox with ⟨rfl, h1, rfl⟩ | ⟨rfl, h1⟩ <;> rcases hoy with ⟨rfl, h2, rfl⟩ | ⟨rfl, h2⟩
      · exact .inl ⟨h1, h2, rfl⟩
      · exact .inr (.inl ⟨h1, h2, fd2_ns y⟩)
      · exact .inr (.inr (.inl ⟨h1, h2, fd2_sn x⟩))
      · by_cases hl : x.g < y.g
        · exact .inr (.inr (.inr (.inl ⟨h1, h2, hl, fd2_yes x y hl⟩)))
        · exact .inr (.inr (.inr (.inr ⟨h1, h2, hl, fd2_no x y hl⟩)))
    clear hox hoy
    obtain ⟨FD, hFD⟩ : ∃ FD, fd2 o0 o1 = FD := ⟨_, rfl⟩
    rw [hFD] at key ⊢
    clear hFD
    obtain ⟨xg, xr, xt, xe, xl, xm⟩ := x
    obtain ⟨yg, yr, yt, ye, yl, ym⟩ := y
    unfold uv at X0 X1
    simp only at X0 X1 key
    go_enter Try.func26, Try.ntmps26
    go_wp2_with fail
    refine (R0.out _ T0.out).mono ?_
    rintro e1 w1 ⟨rfl, ht⟩
    have K2 := Lib.hid (K1.out.turn ht (fun h => h))
    have D2 := Lib.hid (K0.out.turn ht (fun h => h))
    have T1 := Lib.hid (T0.out.trans ht)
    clear ht
    obtain ⟨d0, d1, d2, d3, d4⟩ := (blk5 D2.out).1
    go_wp2_with fail
    refine (R1.out _ T1.out).mono ?_
    rintro e2 w2 ⟨rfl, ht⟩
    have K3 := Lib.hid (K2.out.turn ht (fun h => h))
    have T2 := Lib.hid (T1.out.trans ht)
    clear ht d0 d1 d2 d3 d4
    go_wp2_with fail
    refine (X0.out _).mono ?_
    rintro e3 w3 ⟨rfl, ht⟩
    have TA := (Turn.refl (fun _ => False) w3).alloc (.cells #[.int .i64 xg, .int .i64 xr, .int .i64 xt, .int .i64 xe, .int .i64 xl, .int .i64 xm] 23)
    have K4 := Lib.hid ((K3.out.turn ht (fun h => h)).turn TA (fun h => h))
    have A4 := Lib.hid (Blk.new w3 23 [.int .i64 xg, .int .i64 xr, .int .i64 xt, .int .i64 xe, .int .i64 xl, .int .i64 xm])
    have T3 := Lib.hid ((T2.out.trans ht).trans TA)
    clear ht TA
    go_wp2_with fail
    refine (X1.out _).mono ?_
    rintro e4 w4 ⟨rfl, ht⟩
    have K5 := Lib.hid (K4.out.turn ht (fun h => h))
    have A5 := Lib.hid (A4.out.turn ht (fun h => h))
    have T4 := Lib.hid (T3.out.trans ht)
    clear ht
    obtain ⟨⟨q0, q1, q2, q3, q4, q5⟩, k0, k1_, k2, k3, k4, k5⟩ := blk6 K5.out
    obtain ⟨a0, a1, a2, a3, a4, a5⟩ := (blk6 A5.out).1
    have hz1 : w.heap.size + 1 < w4.heap.size := K5.out.lt
    have hz2 : w3.heap.size < w4.heap.size := A5.out.lt
    rcases key with ⟨rfl, rfl, rfl⟩ | ⟨rfl, rfl, rfl⟩ | ⟨rfl, rfl, rfl⟩ | ⟨rfl, rfl, hlt, rfl⟩ | ⟨rfl, rfl, hlt, rfl⟩
    · go_wp2_with fail
      rw [put6_eq]
      have hf := (K5.out.put6 (a' := .int .i64 0) (b' := .int .i64 0) (c' := .int .i64 0) (d' := .int .i64 0) (e' := .int .i64 0) (f' := .int .i64 0)).alloc (.cells #[.int .i64 yg, .int .i64 yr, .int .i64 yt, .int .i64 ye, .int .i64 yl, .int .i64 ym] 23)
      have hT := (T4.out.put6 (g := w.heap.size + 1) (.inr (Nat.le_succ _)) (.int .i64 0) (.int .i64 0) (.int .i64 0) (.int .i64 0) (.int .i64 0) (.int .i64 0)).alloc (.cells #[.int .i64 yg, .int .i64 yr, .int .i64 yt, .int .i64 ye, .int .i64 yl, .int .i64 ym] 23)
      generalize (put6 w4 (w.heap.size + 1) (.int .i64 0) (.int .i64 0) (.int .i64 0) (.int .i64 0) (.int .i64 0) (.int .i64 0)).alloc (.cells #[.int .i64 yg, .int .i64 yr, .int .i64 yt, .int .i64 ye, .int .i64 yl, .int .i64 ym] 23) = WF at *
      clear q0 q1 q2 q3 q4 q5 k0 k1_ k2 k3 k4 k5
      obtain ⟨e0, e1, e2, e3, e4, e5⟩ := (blk6 hf).1
      exact bodyPost_ret (v := .tuple #[.agg #[.int .i64 0, .int .i64 0, .int .i64 0, .int .i64 0, .int .i64 0, .int .i64 0], .int .i64 0, .int .i64 4]) (by simp [results, Try.results26, go_sem, e0, e1, e2, e3, e4, e5]) rfl ⟨rfl, hT⟩
    · go_wp2_with fail
      rw [put6_eq]
      have hf := (K5.out.put6 (a' := .int .i64 yg) (b' := .int .i64 yr) (c' := .int .i64 yt) (d' := .int .i64 ye) (e' := .int .i64 yl) (f' := .int .i64 ym)).alloc (.cells #[.int .i64 yg, .int .i64 yr, .int .i64 yt, .int .i64 ye, .int .i64 yl, .int .i64 ym] 23)
      have hT := (T4.out.put6 (g := w.heap.size + 1) (.inr (Nat.le_succ _)) (.int .i64 yg) (.int .i64 yr) (.int .i64 yt) (.int .i64 ye) (.int .i64 yl) (.int .i64 ym)).alloc (.cells #[.int .i64 yg, .int .i64 yr, .int .i64 yt, .int .i64 ye, .int .i64 yl, .int .i64 ym] 23)
      generalize (put6 w4 (w.heap.size + 1) (.int .i64 yg) (.int .i64 yr) (.int .i64 yt) (.int .i64 ye) (.int .i64 yl) (.int .i64 ym)).alloc (.cells #[.int .i64 yg, .int .i64 yr, .int .i64 yt, .int .i64 ye, .int .i64 yl, .int .i64 ym] 23) = WF at *
      clear q0 q1 q2 q3 q4 q5 k0 k1_ k2 k3 k4 k5
      obtain ⟨e0, e1, e2, e3, e4, e5⟩ := (blk6 hf).1
      exact bodyPost_ret (v := .tuple #[.agg #[.int .i64 yg, .int .i64 yr, .int .i64 yt, .int .i64 ye, .int .i64 yl, .int .i64 ym], .int .i64 1, .int .i64 0]) (by simp [results, Try.results26, go_sem, e0, e1, e2, e3, e4, e5]) rfl ⟨rfl, hT⟩
    · go_wp2_with fail
      rw [put6_eq]
      have hf := (K5.out.put6 (a' := .int .i64 xg) (b' := .int .i64 xr) (c' := .int .i64 xt) (d' := .int .i64 xe) (e' := .int .i64 xl) (f' := .int .i64 xm)).alloc (.cells #[.int .i64 yg, .int .i64 yr, .int .i64 yt, .int .i64 ye, .int .i64 yl, .int .i64 ym] 23)
      have hT := (T4.out.put6 (g := w.heap.size + 1) (.inr (Nat.le_succ _)) (.int .i64 xg) (.int .i64 xr) (.int .i64 xt) (.int .i64 xe) (.int .i64 xl) (.int .i64 xm)).alloc (.cells #[.int .i64 yg, .int .i64 yr, .int .i64 yt, .int .i64 ye, .int .i64 yl, .int .i64 ym] 23)
      generalize (put6 w4 (w.heap.size + 1) (.int .i64 xg) (.int .i64 xr) (.int .i64 xt) (.int .i64 xe) (.int .i64 xl) (.int .i64 xm)).alloc (.cells #[.int .i64 yg, .int .i64 yr, .int .i64 yt, .int .i64 ye, .int .i64 yl, .int .i64 ym] 23) = WF at *
      clear q0 q1 q2 q3 q4 q5 k0 k1_ k2 k3 k4 k5
      obtain ⟨e0, e1, e2, e3, e4, e5⟩ := (blk6 hf).1
      exact bodyPost_ret (v := .tuple #[.agg #[.int .i64 xg, .int .i64 xr, .int .i64 xt, .int .i64 xe, .int .i64 xl, .int .i64 xm], .int .i64 0, .int .i64 0]) (by simp [results, Try.results26, go_sem, e0, e1, e2, e3, e4, e5]) rfl ⟨rfl, hT⟩
    · go_wp2_with fail
      rw [put6_eq]
      have hf := (K5.out.put6 (a' := .int .i64 yg) (b' := .int .i64 yr) (c' := .int .i64 yt) (d' := .int .i64 ye) (e' := .int .i64 yl) (f' := .int .i64 ym)).alloc (.cells #[.int .i64 yg, .int .i64 yr, .int .i64 yt, .int .i64 ye, .int .i64 yl, .int .i64 ym] 23)
      have hT := (T4.out.put6 (g := w.heap.size + 1) (.inr (Nat.le_succ _)) (.int .i64 yg) (.int .i64 yr) (.int .i64 yt) (.int .i64 ye) (.int .i64 yl) (.int .i64 ym)).alloc (.cells #[.int .i64 yg, .int .i64 yr, .int .i64 yt, .int .i64 ye, .int .i64 yl, .int .i64 ym] 23)
      generalize (put6 w4 (w.heap.size + 1) (.int .i64 yg) (.int .i64 yr) (.int .i64 yt) (.int .i64 ye) (.int .i64 yl) (.int .i64 ym)).alloc (.cells #[.int .i64 yg, .int .i64 yr, .int .i64 yt, .int .i64 ye, .int .i64 yl, .int .i64 ym] 23) = WF at *
      clear q0 q1 q2 q3 q4 q5 k0 k1_ k2 k3 k4 k5
      obtain ⟨e0, e1, e2, e3, e4, e5⟩ := (blk6 hf).1
      exact bodyPost_ret (v := .tuple #[.agg #[.int .i64 yg, .int .i64 yr, .int .i64 yt, .int .i64 ye, .int .i64 yl, .int .i64 ym], .int .i64 1, .int .i64 0]) (by simp [results, Try.results26, go_sem, e0, e1, e2, e3, e4, e5]) rfl ⟨rfl, hT⟩
    · have hl2 : yg ≤ xg := by omega
      have hl3 : decide (xg < yg) = false := decide_eq_false (by omega)
      go_wp2_with fail
      rw [put6_eq]
      have hf := (K5.out.put6 (a' := .int .i64 xg) (b' := .int .i64 xr) (c' := .int .i64 xt) (d' := .int .i64 xe) (e' := .int .i64 xl) (f' := .int .i64 xm)).alloc (.cells #[.int .i64 yg, .int .i64 yr, .int .i64 yt, .int .i64 ye, .int .i64 yl, .int .i64 ym] 23)
      have hT := (T4.out.put6 (g := w.heap.size + 1) (.inr (Nat.le_succ _)) (.int .i64 xg) (.int .i64 xr) (.int .i64 xt) (.int .i64 xe) (.int .i64 xl) (.int .i64 xm)).alloc (.cells #[.int .i64 yg, .int .i64 yr, .int .i64 yt, .int .i64 ye, .int .i64 yl, .int .i64 ym] 23)
      generalize (put6 w4 (w.heap.size + 1) (.int .i64 xg) (.int .i64 xr) (.int .i64 xt) (.int .i64 xe) (.int .i64 xl) (.int .i64 xm)).alloc (.cells #[.int .i64 yg, .int .i64 yr, .int .i64 yt, .int .i64 ye, .int .i64 yl, .int .i64 ym] 23) = WF at *
      clear q0 q1 q2 q3 q4 q5 k0 k1_ k2 k3 k4 k5
      obtain ⟨e0, e1, e2, e3, e4, e5⟩ := (blk6 hf).1
      exact bodyPost_ret (v := .tuple #[.agg #[.int .i64 xg, .int .i64 xr, .int .i64 xt, .int .i64 xe, .int .i64 xl, .int .i64 xm], .int .i64 0, .int .i64 0]) (by simp [results, Try.results26, go_sem, e0, e1, e2, e3, e4, e5]) rfl ⟨rfl, hT⟩
  · have HF : Hid (D.find = ⟨zU, 0, 6⟩) := Lib.hid (by unfold Dsk.find; rw [hd', if_neg (by simp), if_pos (by omega)])
    have R1 := Lib.hid (fun W => HE.out 1 6 W (.inr ⟨hd', by omega, rfl⟩))
    rw [HF.out]
    clear HE HG HF hd
    try clear hd'
    go_enter Try.func26, Try.ntmps26
    go_wp2_with fail
    refine (R0.out _ T0.out).mono ?_
    rintro e1 w1 ⟨rfl, ht⟩
    have K2 := Lib.hid (K1.out.turn ht (fun h => h))
    have D2 := Lib.hid (K0.out.turn ht (fun h => h))
    have T1 := Lib.hid (T0.out.trans ht)
    clear ht
    obtain ⟨d0, d1, d2, d3, d4⟩ := (blk5 D2.out).1
    go_wp2_with fail
    refine (R1.out _).mono ?_
    rintro e2 w2 ⟨rfl, ht⟩
    have K3 := Lib.hid (K2.out.turn ht (fun h => h))
    have T2 := Lib.hid (T1.out.trans ht)
    clear ht d0 d1 d2 d3 d4
    obtain ⟨⟨q0, q1, q2, q3, q4, q5⟩, k0, k1_, k2, k3, k4, k5⟩ := blk6 K3.out
    go_wp2_with fail
    rw [put6_eq]
    have hf := (K3.out.put6 (a' := .int .i64 0) (b' := .int .i64 0) (c' := .int .i64 0) (d' := .int .i64 0) (e' := .int .i64 0) (f' := .int .i64 0))
    have hT := (T2.out.put6 (g := w.heap.size + 1) (.inr (Nat.le_succ _)) (.int .i64 0) (.int .i64 0) (.int .i64 0) (.int .i64 0) (.int .i64 0) (.int .i64 0))
    generalize (put6 w2 (w.heap.size + 1) (.int .i64 0) (.int .i64 0) (.int .i64 0) (.int .i64 0) (.int .i64 0) (.int .i64 0)) = WF at *
    clear q0 q1 q2 q3 q4 q5 k0 k1_ k2 k3 k4 k5
    obtain ⟨e0, e1, e2, e3, e4, e5⟩ := (blk6 hf).1
    exact bodyPost_ret (v := .tuple #[.agg #[.int .i64 0, .int .i64 0, .int .i64 0, .int .i64 0, .int .i64 0, .int .i64 0], .int .i64 0, .int .i64 6]) (by simp [results, Try.results26, go_sem, e0, e1, e2, e3, e4, e5]) rfl ⟨rfl, hT⟩
end Go.Proofs.Ytcjoinahelmmpaa
