/- Layer 4: the document's disk: what is kept behind writes. -/
import Derived.Test.YtcjoinahelmmpaaBlkS
namespace Go.Proofs.Ytcjoinahelmmpaa
open Go.RowKit Go.Maps
set_option linter.unusedVariables false

def setAll (ks : List (List UInt8)) (l : List (Nat × List UInt8)) : List (List UInt8) := l.foldl (fun ks x => ks.set x.1 x.2) ks
theorem setAll_snoc (ks : List (List UInt8)) (l : List (Nat × List UInt8)) (x : Nat × List UInt8) : setAll ks (l ++ [x]) = (setAll ks l).set x.1 x.2 := by simp [setAll]
theorem setAll_len (l : List (Nat × List UInt8)) : ∀ ks : List (List UInt8), (setAll ks l).length = ks.length := by
  induction l with
  | nil => intro ks; rfl
  | cons x l ih => intro ks; show (setAll (ks.set x.1 x.2) l).length = _; rw [ih, List.length_set]
theorem full_full {l : List UInt8} (h : l.length = 128) : full l = l := by simp [full, h]
theorem setAll_full : ∀ (l : List (Nat × List UInt8)) (ks : List (List UInt8)) (D : Dsk), (∀ x ∈ l, x.2.length = 128) → ks.map full = D.kept → (setAll ks l).map full = (D.keepAll l).kept
  | [], ks, D, _, h => h
  | x :: l, ks, D, hl, h => by
    refine setAll_full l (ks.set x.1 x.2) (D.keepW x) (fun y hy => hl y (by simp [hy])) ?_
    rw [List.map_set, full_full (hl x (by simp)), h]
    rfl
theorem setAll_most : ∀ (l : List (Nat × List UInt8)) (ks : List (List UInt8)), (∀ x ∈ l, x.2.length ≤ 128) → (∀ s ∈ ks, s.length ≤ 128) → ∀ s ∈ setAll ks l, s.length ≤ 128
  | [], ks, _, h => h
  | x :: l, ks, hl, h => setAll_most l (ks.set x.1 x.2) (fun y hy => hl y (by simp [hy])) (fun s hs => by
    rcases List.mem_or_eq_of_mem_set hs with h1 | h1
    · exact h s h1
    · rw [h1]; exact hl x (by simp))
theorem own_new2_ {w : World} {t s k : Nat} (hk : w.heap.size = k) : (w.alloc (.cells #[] t)).ownsRow k t s (.slice (some ⟨k, 0, none⟩) 0 0) 0 [] := hk ▸ own_new_
theorem one_sv (ks : List (List UInt8)) : ∀ u ∈ ks.map sv, u.oneCell' = true := fun u hu => by
  obtain ⟨x, _, rfl⟩ := List.mem_map.1 hu; rfl
/-- A cell of an own row is set. -/
theorem own_set_ {w : World} {b t n : Nat} {A : Option Addr} {c : Nat} {xs : List Value} (h : w.ownsRow b t 1 (.slice A n c) n xs) {k : Nat} (hk : k < n) (u : Value) :
    ∃ g, A = some ⟨g, 0, none⟩ ∧ (∃ v, w.cell? ⟨g, k, none⟩ = some v) ∧ w.frozen? ⟨g, k, none⟩ = false ∧ b ≤ g ∧ (w.setCell ⟨g, k, none⟩ u).ownsRow b t 1 (.slice A n c) n (xs.set k u) := by
  obtain ⟨hx, ⟨e, h0⟩ | ⟨g, c', cur, e, hB, hh, hnc, hm, hs, ht⟩⟩ := h
  · omega
  · injection e with e1 e2 e3
    subst e3
    have hb : Blk w g t cur.toList := hh
    have hp := hb.put k u
    have hks : k < cur.toList.length := by rw [Array.length_toList]; omega
    refine ⟨g, e1, ⟨_, (hb.cell k).trans (List.getElem?_eq_getElem hks)⟩, hb.free k, hB, by simpa using hx, .inr ⟨g, c, (cur.toList.set k u).toArray, by rw [e1], hB, hp, hnc, hm, by simpa using hs, ?_⟩⟩
    rw [Nat.mul_one] at ht ⊢
    rw [← ht]
    rw [List.take_set]
set_option maxRecDepth 100000 in
set_option maxHeartbeats 4000000 in
theorem kept_r (N : Int) (A B L : Option Addr) (ks : List (List UInt8)) (c m d dl : Nat) (F : Int) (dd : Bool) (ls : List (Nat × List UInt8)) (hls : ∀ x ∈ ls, x.1 < ks.length) (hk0 : 0 < ks.length) (hk1 : ks.length ≤ 16384) (hll : ls.length ≤ 1000000) (w : World)
    (hA : w.ownsRow 0 9 1 (.slice A ks.length c) ks.length (ks.map sv)) (hL : w.ownsRow 0 93 2 (.slice L ls.length dl) ls.length (ls.flatMap pv)) :
    Calls Try.prog 47 #[.agg #[.int .i64 N, .slice A ks.length c, .slice B m d, .int .i64 F, .bool dd], .slice L ls.length dl] w fun e w' => ∃ A' c', e = .returned (.agg #[.int .i64 N, .slice A' ks.length c', .slice none 0 0, .int .i64 F, .bool dd]) ∧ w'.ownsRow w.heap.size 9 1 (.slice A' ks.length c') ks.length ((setAll ks ls).map sv) ∧ Turn (fun _ => False) w w' := by
  obtain ⟨j0, hj, hjz, hjs, hjb⟩ := info_parts_ info_string_
  have HJ := Lib.hid hj
  have HJZ := Lib.hid hjz
  have HJS := Lib.hid hjs
  have HJB := Lib.hid hjb
  clear hj hjz hjs hjb
  have HL := Lib.hid hL
  have HA := Lib.hid hA
  have HLS := Lib.hid hls
  clear hA hL hls
  have hb := ((Blk.new w 46 [.int .i64 N, .slice A ks.length c, .slice B m d, .int .i64 F, .bool dd]).alloc (.cells #[.int .i64 0, .slice none 0 0, .slice none 0 0, .int .i64 0, .bool false] 46)).alloc (.cells #[] 9)
  have hr := (Blk.new_ (w.alloc (.cells #[.int .i64 N, .slice A ks.length c, .slice B m d, .int .i64 F, .bool dd] 46)) 46 [.int .i64 0, .slice none 0 0, .slice none 0 0, .int .i64 0, .bool false] (k := w.heap.size + 1) (by simp)).alloc (.cells #[] 9)
  have HB0 := Lib.hid hb
  have HR0 := Lib.hid hr
  have T0 := Lib.hid ((((Turn.refl (fun _ => False) w).alloc (.cells #[.int .i64 N, .slice A ks.length c, .slice B m d, .int .i64 F, .bool dd] 46)).alloc (.cells #[.int .i64 0, .slice none 0 0, .slice none 0 0, .int .i64 0, .bool false] 46)).alloc (.cells #[] 9))
  clear hb hr
  go_enter Try.func47, Try.ntmps47
  go_wp2_with (at_builtin; refine wpList_app_row rfl _ _ 43 rfl (w.heap.size + 1 + 1) 9 j0 _ 1 16 Try.underlying43 HJ.out HJZ.out HJS.out HJB.out (by rfl) (by decide) (some ⟨w.heap.size + 1 + 1, 0, none⟩) 0 0 [] rfl (own_new2_ (by simp)) A ks.length c (ks.map sv) rfl (ownsRow_turn HA.out T0.out (fun _ _ h => h)) (one_sv _) (by omega) (by unfold maxLen; omega) (by simp) ?_
               intro A3 c3 w3 ho3 ht3
               simp only [Nat.zero_add, List.nil_append] at ho3
               have O3 := Lib.hid ho3
               have TT : Turn (fun k => k = w.heap.size + 1 + 1) _ w3 := ht3.mono (fun k _ e => by simp [Value.ownBlock] at e; exact e.symm)
               have hb3 := HB0.out.turn TT (by omega)
               have hr3 := HR0.out.turn TT (by omega)
               have T3 := Lib.hid (T0.out.trans_new TT (fun k hk e => by omega))
               have HB3 := Lib.hid hb3
               have HR3 := Lib.hid hr3
               have b1 := hb3.cell 1
               have f1 := hb3.free 1
               simp only [List.getElem?_cons_zero, List.getElem?_cons_succ] at b1
               clear ho3 ht3 TT hb3 hr3)
  clear b1 f1
  go_loopw [5] (fun v wr => ∃ j : Nat, j ≤ ls.length ∧ v = .int .i64 j ∧ wr.ownsRow (w.heap.size + 1 + 1) 9 1 (.slice A3 ks.length c3) ks.length ((setAll ks (ls.take j)).map sv) ∧ Blk wr w.heap.size 46 [.int .i64 N, .slice A3 ks.length c3, .slice B m d, .int .i64 F, .bool dd] ∧ Blk wr (w.heap.size + 1) 46 [.int .i64 0, .slice none 0 0, .slice none 0 0, .int .i64 0, .bool false] ∧ Turn (fun _ => False) w wr) (fun v _ => ls.length - (intOf v).toNat)
  case atStart =>
    refine ⟨0, Nat.zero_le _, rfl, ?_, HB3.out.put 1 _, HR3.out.far (p := ⟨w.heap.size, 1, none⟩) (by simp) _, ?_⟩
    · exact ownsRow_turn O3.out ((Turn.refl (· = w.heap.size) w3).setCell (p := ⟨w.heap.size, 1, none⟩) (.inl rfl) _) (fun k hk e => by have := own_ge_ O3.out k hk; omega)
    · exact T3.out.trans_new ((Turn.refl (· = w.heap.size) w3).setCell (p := ⟨w.heap.size, 1, none⟩) (.inl rfl) _) (fun k hk e => by omega)
  case round =>
    obtain ⟨j, hj, rfl, ho, hb, hr, ht⟩ := hrel
    have HO := Lib.hid ho
    have HB := Lib.hid hb
    have HR := Lib.hid hr
    have HT := Lib.hid ht
    by_cases hlt : j < ls.length
    · obtain ⟨x, hx⟩ : ∃ x, ls[j]? = some x := ⟨_, List.getElem?_eq_getElem hlt⟩
      have hLw := ownsRow_turn HL.out ht (fun _ _ h => h)
      have e0 := flat_at pv 2 ls (fun y _ => rfl) j 0 x hx (by omega)
      have e1 := flat_at pv 2 ls (fun y _ => rfl) j 1 x hx (by omega)
      obtain ⟨g, hg, h0⟩ := own_at_ hLw (k := j * 2 + 0) (u := .int .i64 (x.1 : Int)) (by rw [e0]; rfl)
      obtain ⟨g', hg', h1⟩ := own_at_ hLw (k := j * 2 + 1) (u := sv x.2) (by rw [e1]; rfl)
      rw [hg] at hg'
      injection hg' with hg'
      injection hg' with hg'
      subst hg' hg
      have hxk : x.1 < ks.length := HLS.out x (List.mem_of_getElem? hx)
      obtain ⟨gk, ek, ⟨vv, hcv⟩, hfv, hge, hset⟩ := own_set_ ho (k := x.1) hxk (sv x.2)
      subst ek
      have HN : Hid ((setAll ks (ls.take (j + 1))).map sv = ((setAll ks (ls.take j)).map sv).set x.1 (sv x.2)) := Lib.hid (by rw [take_snoc_ hx, setAll_snoc, List.map_set])
      rw [← HN.out] at hset
      have HS := Lib.hid hset
      have b1 := hb.cell 1
      simp only [List.getElem?_cons_zero, List.getElem?_cons_succ] at b1
      have k0 : (0 : Int) ≤ (x.1 : Int) := Int.natCast_nonneg _
      have k1 : (x.1 : Int) < (ks.length : Int) := by omega
      have j0' : (0 : Int) ≤ (j : Int) := Int.natCast_nonneg _
      have j1 : (j : Int) < (ls.length : Int) := by omega
      rw [Nat.add_zero] at h0
      obtain ⟨y0, y1⟩ := x
      simp only at h0 h1 hcv hfv HS k0 k1 hxk
      clear ho hb hr ht hx hLw e0 e1 hset
      go_wp2
      refine wp_region_still_tail 13 (by kernel_rfl) (by kernel_rfl) ?_
      simp only [List.take_succ_cons, List.take_zero, List.drop_succ_cons, List.drop_zero]
      change wpStill _ _ (World.drew _) _ _ _
      repeat still_step
      refine wpStill_nil ?_
      change wpList _ _ _ _ _ (World.drew _)
      go_wp2
      go_roundw
      case rel =>
        have ts : Turn (· = gk) wr (wr.setCell ⟨gk, y0, none⟩ (sv y1)) := (Turn.refl (· = gk) wr).setCell (p := ⟨gk, y0, none⟩) (.inl rfl) _
        exact ⟨j + 1, by omega, by go_num, ownsRow_turn HS.out ((Turn.refl (fun _ => False) _).drew) (fun _ _ h => h), (HB.out.turn ts (by omega)).drew, (HR.out.turn ts (by omega)).drew, (HT.out.trans_new ts (fun k hk e => by omega)).drew⟩
      case measure => simp [intOf] <;> omega
    · obtain rfl : j = ls.length := by omega
      rw [List.take_length] at HO
      have b0 := hb.cell 0
      have b1 := hb.cell 1
      have b2 := hb.cell 2
      have b3 := hb.cell 3
      have b4 := hb.cell 4
      have f2 := hb.free 2
      have r0 := hr.cell 0
      have r1 := hr.cell 1
      have r2 := hr.cell 2
      have r3 := hr.cell 3
      have r4 := hr.cell 4
      have g0 := hr.free 0
      have g1 := hr.free 1
      have g2 := hr.free 2
      have g3 := hr.free 3
      have g4 := hr.free 4
      simp only [List.getElem?_cons_zero, List.getElem?_cons_succ] at b0 b1 b2 b3 b4 r0 r1 r2 r3 r4
      clear ho hb hr ht hlt
      go_wp2
      have hf := (((((HR.out.far (p := ⟨w.heap.size, 2, none⟩) (by simp) (.slice none 0 0)).put 0 (.int .i64 N)).put 1 (.slice A3 ks.length c3)).put 2 (.slice none 0 0)).put 3 (.int .i64 F)).put 4 (.bool dd)
      have tf := ((((((Turn.refl (fun k => k = w.heap.size ∨ k = w.heap.size + 1) wr).setCell (p := ⟨w.heap.size, 2, none⟩) (.inl (.inl rfl)) (.slice none 0 0)).setCell (p := ⟨w.heap.size + 1, 0, none⟩) (.inl (.inr rfl)) (.int .i64 N)).setCell (p := ⟨w.heap.size + 1, 1, none⟩) (.inl (.inr rfl)) (.slice A3 ks.length c3)).setCell (p := ⟨w.heap.size + 1, 2, none⟩) (.inl (.inr rfl)) (.slice none 0 0)).setCell (p := ⟨w.heap.size + 1, 3, none⟩) (.inl (.inr rfl)) (.int .i64 F)).setCell (p := ⟨w.heap.size + 1, 4, none⟩) (.inl (.inr rfl)) (.bool dd)
      have hown := ownsRow_turn (own_mono_ HO.out (B' := w.heap.size) (by omega)) tf (fun k hk e => by have := own_ge_ HO.out k hk; omega)
      have htt := HT.out.trans_new tf (fun k hk e => by omega)
      have e0 := hf.cell 0
      have e1 := hf.cell 1
      have e2 := hf.cell 2
      have e3 := hf.cell 3
      have e4 := hf.cell 4
      simp only [List.set_cons_zero, List.set_cons_succ, List.getElem?_cons_zero, List.getElem?_cons_succ] at e0 e1 e2 e3 e4
      clear b0 b1 b2 b3 b4 f2 r0 r1 r2 r3 r4 g0 g1 g2 g3 g4 tf hf
      generalize ((((((wr.setCell ⟨w.heap.size, 2, none⟩ (.slice none 0 0)).setCell ⟨w.heap.size + 1, 0, none⟩ (.int .i64 N)).setCell ⟨w.heap.size + 1, 1, none⟩ (.slice A3 ks.length c3)).setCell ⟨w.heap.size + 1, 2, none⟩ (.slice none 0 0)).setCell ⟨w.heap.size + 1, 3, none⟩ (.int .i64 F)).setCell ⟨w.heap.size + 1, 4, none⟩ (.bool dd)) = WF at *
      exact bodyPost_ret (v := .agg #[.int .i64 N, .slice A3 ks.length c3, .slice none 0 0, .int .i64 F, .bool dd]) (by simp [results, Try.results47, go_sem, e0, e1, e2, e3, e4]) rfl ⟨A3, c3, rfl, hown, htt⟩
end Go.Proofs.Ytcjoinahelmmpaa
