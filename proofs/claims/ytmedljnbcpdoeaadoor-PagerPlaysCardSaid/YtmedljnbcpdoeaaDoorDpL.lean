/- Layer 9: the document's pager: Write. -/
import Derived.Test.YtmedljnbcpdoeaaDoorDpE
import Derived.Test.YtmedljnbcpdoeaaDoorPrU
import Derived.Test.YtmedljnbcpdoeaaDoorPrO
namespace Go.Proofs.YtmedljnbcpdoeaaDoor
open Go.RowKit Go.Maps
set_option linter.unusedVariables false
set_option linter.unusedSimpArgs false
set_option maxRecDepth 100000

/-- The world behind the two answers' stores. -/
def FW2 (X : World) (p : Nat) (x0 x1 : Value) (q : Nat) (D : Dsk) (ks : List (List UInt8)) (A : Option Addr) (c : Nat) (B : Option Addr) (d : Nat) : World := FW ((X.setCell ⟨p, 0, none⟩ x0).setCell ⟨p, 1, none⟩ x1) q D ks A c B d
theorem fst9_at {st : List Nat} {k : Nat} (hk : k < st.length) (h0 : st.getD k 0 = 0) (hn : ∀ j, j < k → st.getD j 0 ≠ 0) : fst9 st = some k := by
  unfold fst9
  rw [List.find?_range_eq_some]
  refine ⟨by rw [h0]; rfl, List.mem_range.2 hk, fun j hj => by simpa using hn j hj⟩
theorem wr9_case {fr : Nat} {st : List Nat} {D : Dsk} {b : List UInt8} {i : Nat} (hb : ¬ 1024 < b.length) (h : fst9 st = some i) : wr9 fr st D b = if (putk 8 D ((fr + 8 * i : Nat) : Int) b).2 = 0 then (st.set i 2, (putk 8 D ((fr + 8 * i : Nat) : Int) b).1, i, 0) else (st, (putk 8 D ((fr + 8 * i : Nat) : Int) b).1, 0, (putk 8 D ((fr + 8 * i : Nat) : Int) b).2) := by
  unfold wr9; rw [if_neg hb, h]
set_option maxHeartbeats 4000000 in
theorem write_d {S : Nat → Prop} {w : World} {v : Value} {st : List Nat} {D : Dsk} {ks : List (List UInt8)} {A B : Option Addr} {c d : Nat} (hS : ∀ k, S k → k < w.heap.size) (h : Rd9 S w v (il9 st)) (g : Rg S w D ks A c B d) (ok : D.Ok) (hp : D.pend.length ≤ 900000) (fr : Nat) (hfr : fr + 8 * st.length ≤ D.kept.length) (s : ByteArray) :
    Calls Tryd.prog 26 #[.agg #[.int .i64 fr, v], rd D ks A c B d, .string s] w fun r w' => ∃ v' B' d', r = .returned (.tuple #[.agg #[.int .i64 fr, v'], rd (wr9 fr st D s.data.toList).2.1 ks A c B' d', .int .i64 ((wr9 fr st D s.data.toList).2.2.1 : Nat), .int .i64 (wr9 fr st D s.data.toList).2.2.2]) ∧ Rd9 S w' v' (il9 (wr9 fr st D s.data.toList).1) ∧ Rg S w' (wr9 fr st D s.data.toList).2.1 ks A c B' d' ∧ Turn (fun _ => False) w w' := by
  obtain ⟨AP, cP, rfl, hir, _⟩ := h.ir
  rw [len_il9] at h ⊢
  have hkm : D.kept.length ≤ 16384 := ok.most
  have HI := Lib.hid hir
  obtain ⟨n, hn⟩ : ∃ n, st.length = n := ⟨_, rfl⟩
  have HN := Lib.hid hn
  rw [hn] at hfr h ⊢
  obtain ⟨W1, hW1⟩ : ∃ W, w.alloc (.cells #[.int .i64 fr, .slice AP n cP] 40) = W := ⟨_, rfl⟩
  have B1 : Hid (Blk W1 w.heap.size 40 [.int .i64 fr, .slice AP n cP]) := Lib.hid (hW1 ▸ Blk.new _ _ _)
  have T1 : Hid (Turn (fun _ => False) w W1) := Lib.hid (hW1 ▸ (Turn.refl _ _).alloc _)
  obtain ⟨W2, hW2⟩ : ∃ W, W1.alloc (.cells #[.int .i64 (D.kept.length : Int), .slice A ks.length c, .slice B D.pend.length d, .int .i64 D.fuse, .bool D.dead] 32) = W := ⟨_, rfl⟩
  have C2 : Hid (Blk W2 W1.heap.size 32 (rdc D ks A c B d)) := Lib.hid (hW2 ▸ Blk.new _ _ _)
  have B2 : Hid (Blk W2 w.heap.size 40 [.int .i64 fr, .slice AP n cP]) := Lib.hid (hW2 ▸ B1.out.alloc _)
  have T2 : Hid (Turn (fun _ => False) w W2) := Lib.hid (hW2 ▸ T1.out.alloc _)
  obtain ⟨W3, hW3⟩ : ∃ W, W2.alloc (.cells #[.int .i64 0, .slice none 0 0] 40) = W := ⟨_, rfl⟩
  have F3 : Hid (Blk W3 W2.heap.size 40 [.int .i64 0, .slice none 0 0]) := Lib.hid (hW3 ▸ Blk.new _ _ _)
  have C3 : Hid (Blk W3 W1.heap.size 32 (rdc D ks A c B d)) := Lib.hid (hW3 ▸ C2.out.alloc _)
  have B3 : Hid (Blk W3 w.heap.size 40 [.int .i64 fr, .slice AP n cP]) := Lib.hid (hW3 ▸ B2.out.alloc _)
  have T3 : Hid (Turn (fun _ => False) w W3) := Lib.hid (hW3 ▸ T2.out.alloc _)
  obtain ⟨W4, hW4⟩ : ∃ W, W3.alloc (.cells #[.int .i64 0, .slice none 0 0, .slice none 0 0, .int .i64 0, .bool false] 32) = W := ⟨_, rfl⟩
  have E4 : Hid (Blk W4 W3.heap.size 32 [.int .i64 0, .slice none 0 0, .slice none 0 0, .int .i64 0, .bool false]) := Lib.hid (hW4 ▸ Blk.new _ _ _)
  have F4 : Hid (Blk W4 W2.heap.size 40 [.int .i64 0, .slice none 0 0]) := Lib.hid (hW4 ▸ F3.out.alloc _)
  have C4 : Hid (Blk W4 W1.heap.size 32 (rdc D ks A c B d)) := Lib.hid (hW4 ▸ C3.out.alloc _)
  have B4 : Hid (Blk W4 w.heap.size 40 [.int .i64 fr, .slice AP n cP]) := Lib.hid (hW4 ▸ B3.out.alloc _)
  have T4 : Hid (Turn (fun _ => False) w W4) := Lib.hid (hW4 ▸ T3.out.alloc _)
  have hb1 := B1.out.lt
  have hb2 := C2.out.lt
  have hb3 := F3.out.lt
  have hb4 := E4.out.lt
  obtain ⟨q2, hq2⟩ : ∃ q, W2.heap.size = q := ⟨_, rfl⟩
  obtain ⟨q3, hq3⟩ : ∃ q, W3.heap.size = q := ⟨_, rfl⟩
  have HQ2 := Lib.hid hq2
  have HQ3 := Lib.hid hq3
  have BPW : Hid (∀ W, Turn (fun k => k = q2 ∨ k = q3) W4 W → W.cell? ⟨w.heap.size, 0, none⟩ = some (.int .i64 fr) ∧ W.cell? ⟨w.heap.size, 1, none⟩ = some (.slice AP n cP)) := Lib.hid (fun W hW => by obtain ⟨x0, x1, _, _⟩ := cells2 (B4.out.turn hW (by omega)); exact ⟨x0, x1⟩)
  have BDW : Hid (∀ W, Turn (fun k => k = q2 ∨ k = q3) W4 W → W.cell? ⟨W1.heap.size, 0, none⟩ = some (.int .i64 (D.kept.length : Int)) ∧ W.cell? ⟨W1.heap.size, 1, none⟩ = some (.slice A ks.length c) ∧ W.cell? ⟨W1.heap.size, 2, none⟩ = some (.slice B D.pend.length d) ∧ W.cell? ⟨W1.heap.size, 3, none⟩ = some (.int .i64 D.fuse) ∧ W.cell? ⟨W1.heap.size, 4, none⟩ = some (.bool D.dead)) := Lib.hid (fun W hW => cells5 (C4.out.turn hW (by omega)))
  have HG4 : Hid (Rg (fun k => S k ∨ k = q2 ∨ k = q3) W4 D ks A c B d) := Lib.hid ⟨g.m.still T4.out, fun b hb hs => by
    have h7 := own_lt_ g.m.kept b hb
    rcases hs with h | h | h
    · exact g.k b hb h
    · omega
    · omega, fun b hb hs => by
    have h7 := own_lt_ g.m.pend b hb
    rcases hs with h | h | h
    · exact g.p b hb h
    · omega
    · omega⟩
  have HP4 : Hid (Rd9 (fun k => S k ∨ k = q2 ∨ k = q3) W4 (.slice AP n cP) (il9 st)) := Lib.hid ⟨(h.still T4.out).own, fun b hb e => by
    have h7 := (own_blk9 h.own b hb).2
    rcases e with e | e | e
    · exact h.far b hb e
    · omega
    · omega⟩
  have HSZ : Hid (∀ W : World, W4.heap.size ≤ W.heap.size → ∀ k, (S k ∨ k = q2 ∨ k = q3) → k < W.heap.size) := Lib.hid (fun W hW k hk => by
    rcases hk with h | h | h
    · have := hS k h; omega
    · omega
    · omega)
  have HQQ : Hid (w.heap.size ≤ q2 ∧ q2 < q3) := Lib.hid ⟨by omega, by omega⟩
  have FIN : Hid (∀ (X : World) (A2 : Option Addr) (c2 : Nat) (L : List Int) (Dx : Dsk) (Bx : Option Addr) (dx : Nat), Rd9 (fun k => S k ∨ k = q2 ∨ k = q3) X (.slice A2 n c2) L → Rg (fun k => S k ∨ k = q2 ∨ k = q3) X Dx ks A c Bx dx → Turn (fun _ => False) W4 X →
      (X.cell? ⟨q2, 0, none⟩ = some (.int .i64 0) ∧ X.cell? ⟨q2, 1, none⟩ = some (.slice none 0 0) ∧ X.frozen? ⟨q2, 0, none⟩ = false ∧ X.frozen? ⟨q2, 1, none⟩ = false) ∧
      Hid (∀ X', X' = (X.setCell ⟨q2, 0, none⟩ (.int .i64 fr)).setCell ⟨q2, 1, none⟩ (.slice A2 n c2) →
        (X'.cell? ⟨q3, 0, none⟩ = some (.int .i64 0) ∧ X'.cell? ⟨q3, 1, none⟩ = some (.slice none 0 0) ∧ X'.cell? ⟨q3, 2, none⟩ = some (.slice none 0 0) ∧ X'.cell? ⟨q3, 3, none⟩ = some (.int .i64 0) ∧ X'.cell? ⟨q3, 4, none⟩ = some (.bool false) ∧ X'.frozen? ⟨q3, 0, none⟩ = false ∧ X'.frozen? ⟨q3, 1, none⟩ = false ∧ X'.frozen? ⟨q3, 2, none⟩ = false ∧ X'.frozen? ⟨q3, 3, none⟩ = false ∧ X'.frozen? ⟨q3, 4, none⟩ = false) ∧
        (∀ X'', X'' = FW X' q3 Dx ks A c Bx dx → 
          (X''.cell? ⟨q2, 0, none⟩ = some (.int .i64 fr) ∧ X''.cell? ⟨q2, 1, none⟩ = some (.slice A2 n c2)) ∧
          (X''.cell? ⟨q3, 0, none⟩ = some (.int .i64 (Dx.kept.length : Int)) ∧ X''.cell? ⟨q3, 1, none⟩ = some (.slice A ks.length c) ∧ X''.cell? ⟨q3, 2, none⟩ = some (.slice Bx Dx.pend.length dx) ∧ X''.cell? ⟨q3, 3, none⟩ = some (.int .i64 Dx.fuse) ∧ X''.cell? ⟨q3, 4, none⟩ = some (.bool Dx.dead)) ∧
          Rd9 S X'' (.slice A2 n c2) L ∧ Rg S X'' Dx ks A c Bx dx ∧ Turn (fun _ => False) w X''))) := Lib.hid (fun X A2 c2 L Dx Bx dx hR hG hT => by
    have hF := F4.out.turn hT (fun h => h)
    have hE := E4.out.turn hT (fun h => h)
    rw [hq2] at hF
    rw [hq3] at hE
    refine ⟨cells2 hF, Lib.hid (fun X' e => ?_)⟩
    subst e
    obtain ⟨hb1, ht1, _, _⟩ := box2 hF (.int .i64 fr) (.slice A2 n c2)
    have hE1 := hE.turn ht1 (by have := HQQ.out; omega)
    refine ⟨cells5f hE1, fun X'' e => ?_⟩
    subst e
    obtain ⟨hb2, ht2⟩ := put5d hE1 (.int .i64 (Dx.kept.length : Int)) (.slice A ks.length c) (.slice Bx Dx.pend.length dx) (.int .i64 Dx.fuse) (.bool Dx.dead)
    obtain ⟨y0, y1, _, _⟩ := cells2 (hb1.turn ht2 (by have := HQQ.out; omega))
    have t12 := (ht1.mono (T := fun k => k = q2 ∨ k = q3) (fun _ _ h => .inl h)).trans (ht2.mono (fun _ _ h => .inr h))
    exact ⟨⟨y0, y1⟩, cells5 hb2, ⟨own_far9 hR.own t12 (fun k hk e => hR.far k hk (.inr e)), fun b hb hs => hR.far b hb (.inl hs)⟩, (hG.stp ⟨t12.mono (fun _ _ h => .inr h), fun _ h => .inl h⟩).less9, (T4.out.trans hT).trans_new t12 (fun k hk e => by have := HQQ.out; omega)⟩)
  have HOV : Hid (∀ (W : World) (k : Nat), Turn (fun _ => False) W4 W → k < n → s.size ≤ 1024 → Calls Tryd.prog 36 #[.agg #[.int .i64 fr, .slice AP n cP], .agg #[.int .i64 (D.kept.length : Int), .slice A ks.length c, .slice B D.pend.length d, .int .i64 D.fuse, .bool D.dead], .int .i64 k, .string s] W fun r w' => ∃ B' d', r = .returned (.tuple #[rd (putk 8 D ((fr + 8 * k : Nat) : Int) s.data.toList).1 ks A c B' d', .int .i64 (putk 8 D ((fr + 8 * k : Nat) : Int) s.data.toList).2]) ∧ Rg (fun k => S k ∨ k = q2 ∨ k = q3) w' (putk 8 D ((fr + 8 * k : Nat) : Int) s.data.toList).1 ks A c B' d' ∧ Turn (fun _ => False) W w') := Lib.hid (fun W k hW hk hs => over_d (HSZ.out W hW.size) (HG4.out.still hW) ok hp fr k (by omega) s hs)
  have hls : Hid (s.data.toList.length = s.size) := Lib.hid Array.length_toList
  unfold rd
  clear hir h g ok B1 T1 C2 B2 T2 F3 C3 B3 T3 E4 F4 C4 B4 hS
  by_cases hbig : 1024 < s.size
  · have HV : Hid (wr9 fr st D s.data.toList = (st, D, 0, 5)) := Lib.hid (wr9_big (by rw [hls.out]; exact hbig))
    rw [HV.out]
    have hb : (1024 : Int) < (s.size : Int) := by omega
    clear hbig
    go_enter Tryd.func26, Tryd.ntmps26
    go_wp2_with fail
    obtain ⟨wx, hwx⟩ : ∃ W, W = W4 := ⟨_, rfl⟩
    have TX : Hid (Turn (fun _ => False) W4 wx) := Lib.hid (by rw [hwx]; exact Turn.refl _ _)
    rw [← hwx]
    clear hwx
    -- R 2
    refine wp_region_noPanic ?_
    refine wp_region_held_drew (S := fun X => Turn (fun k => k = q2 ∨ k = q3) W4 X) (by kernel_rfl) ((TX.out.mono (T := fun k => k = q2 ∨ k = q3) (fun _ _ h => h.elim)).drew) (fun hHeld => ?_)
    refine wpAnyH_named9 (fun X0 hX0 => ?_)
    have T0 : Hid (Turn (fun _ => False) W4 X0) := Lib.hid (by rw [hX0]; exact TX.out.drew)
    have hH0 := T0.out.mono (T := fun k => k = q2 ∨ k = q3) (fun _ _ h => h.elim)
    clear hHeld hX0
    refine wpAnyH_take (i := 0) (v := ?_) rfl (by kernel_rfl) (by kernel_rfl) (by kernel_rfl) (fun _ _ _ h => h) (Or.inl ⟨by rfl, ?_⟩) (by assumption) ?_
    rotate_left 1
    · intro w' hSw
      obtain ⟨x0, x1⟩ := BPW.out _ hSw
      go_simp
      all_goals first | with_reducible rfl | (rw [if_neg (by omega)]; done) | (rw [if_neg (by omega)]; with_reducible rfl)
    try simp only [List.getElem_toArray, List.getElem_cons_zero, List.getElem_cons_succ, Act.put, List.setIfInBounds_toArray, List.set_cons_zero, List.set_cons_succ]
    refine wpAnyH_take (i := 1) (v := ?_) rfl (by kernel_rfl) (by kernel_rfl) (by kernel_rfl) (fun _ _ _ h => h) (Or.inl ⟨by rfl, ?_⟩) (by assumption) ?_
    rotate_left 1
    · intro w' hSw
      obtain ⟨y0, y1, y2, y3, y4⟩ := BDW.out _ hSw
      go_simp
      all_goals first | with_reducible rfl | (rw [if_neg (by omega)]; done) | (rw [if_neg (by omega)]; with_reducible rfl)
    try simp only [List.getElem_toArray, List.getElem_cons_zero, List.getElem_cons_succ, Act.put, List.setIfInBounds_toArray, List.set_cons_zero, List.set_cons_succ]
    refine wpAnyH_ready (rs := [2]) (by kernel_rfl) (by simp) ?_
    refine AllReadyH.cons rfl (fun K hK => ?_) AllReadyH.nil
    obtain ⟨⟨z0, z1, g0, g1⟩, HFA⟩ := FIN.out X0 AP cP _ D B d (HP4.out.still T0.out) (HG4.out.still T0.out) T0.out
    go_simp
    refine hK.out _ _ ((hH0.setCell (p := ⟨q2, 0, none⟩) (.inl (.inl rfl)) _).setCell (p := ⟨q2, 1, none⟩) (.inl (.inl rfl)) _) (fun hHeld => ?_)
    refine wpAnyH_named9 (fun X1 e1 => ?_)
    obtain ⟨⟨z2, z3, z4, z5, z6, g2, g3, g4, g5, g6⟩, hfb⟩ := HFA.out X1 e1
    have HFB := Lib.hid hfb
    have hH1 : Turn (fun k => k = q2 ∨ k = q3) W4 X1 := by rw [e1]; exact (hH0.setCell (p := ⟨q2, 0, none⟩) (.inl (.inl rfl)) _).setCell (p := ⟨q2, 1, none⟩) (.inl (.inl rfl)) _
    clear hK K hHeld e1 HFA hfb z0 z1 g0 g1
    try simp only [List.getElem_toArray, List.getElem_cons_zero, List.getElem_cons_succ, Act.put, List.setIfInBounds_toArray, List.set_cons_zero, List.set_cons_succ]
    refine wpAnyH_ready (rs := [3]) (by kernel_rfl) (by simp) ?_
    refine AllReadyH.cons rfl (fun K hK => ?_) AllReadyH.nil
    go_simp
    have hS2 := ((((hH1.setCell (p := ⟨q3, 0, none⟩) (.inl (.inr rfl)) (.int .i64 (D.kept.length : Int))).setCell (p := ⟨q3, 1, none⟩) (.inl (.inr rfl)) (.slice A ks.length c)).setCell (p := ⟨q3, 2, none⟩) (.inl (.inr rfl)) (.slice B D.pend.length d)).setCell (p := ⟨q3, 3, none⟩) (.inl (.inr rfl)) (.int .i64 D.fuse)).setCell (p := ⟨q3, 4, none⟩) (.inl (.inr rfl)) (.bool D.dead)
    refine hK.out _ _ hS2 (fun hHeld => ?_)
    refine wpAnyH_named9 (fun X2 e2 => ?_)
    have HFC := Lib.hid (HFB.out X2 e2)
    have hH2 : Turn (fun k => k = q2 ∨ k = q3) W4 X2 := by rw [e2]; exact hS2
    clear hK K hHeld e2 HFB z2 z3 z4 z5 z6 g2 g3 g4 g5 g6 hS2
    try simp only [List.getElem_toArray, List.getElem_cons_zero, List.getElem_cons_succ, Act.put, List.setIfInBounds_toArray, List.set_cons_zero, List.set_cons_succ]
    refine wpAnyH_take (i := 4) (v := ?_) rfl (by kernel_rfl) (by kernel_rfl) (by kernel_rfl) (fun _ _ _ h => h) (Or.inl ⟨by rfl, ?_⟩) (by assumption) ?_
    rotate_left 1
    · intro w' hSw
      go_simp
      all_goals first | with_reducible rfl | (rw [if_neg (by omega)]; done) | (rw [if_neg (by omega)]; with_reducible rfl)
    try simp only [List.getElem_toArray, List.getElem_cons_zero, List.getElem_cons_succ, Act.put, List.setIfInBounds_toArray, List.set_cons_zero, List.set_cons_succ]
    refine wpAnyH_take (i := 5) (v := ?_) rfl (by kernel_rfl) (by kernel_rfl) (by kernel_rfl) (fun _ _ _ h => h) (Or.inl ⟨by rfl, ?_⟩) (by assumption) ?_
    rotate_left 1
    · intro w' hSw
      go_simp
      all_goals first | with_reducible rfl | (rw [if_neg (by omega)]; done) | (rw [if_neg (by omega)]; with_reducible rfl)
    try simp only [List.getElem_toArray, List.getElem_cons_zero, List.getElem_cons_succ, Act.put, List.setIfInBounds_toArray, List.set_cons_zero, List.set_cons_succ]
    refine wpAnyH_done (by kernel_rfl) ?_ _
    refine NoPanic.normal ?_
    go_wp2_with fail
    obtain ⟨⟨s0, s1⟩, ⟨t0, t1, t2, t3, t4⟩, hr9, hg9, ht9⟩ := HFC.out
    -- R 2 end
    exact bodyPost_ret (v := .tuple #[.agg #[.int .i64 fr, .slice AP n cP], .agg #[.int .i64 (D.kept.length : Int), .slice A ks.length c, .slice B D.pend.length d, .int .i64 D.fuse, .bool D.dead], .int .i64 0, .int .i64 5]) (by simp [results, Tryd.results26, go_sem, t0, t1, t2, t3, t4, s0, s1]) rfl ⟨_, B, d, rfl, hr9, hg9, ht9⟩
  · have hb : ¬ (1024 : Int) < (s.size : Int) := by omega
    have hle : s.size ≤ 1024 := by omega
    have hbl : Hid (¬ 1024 < s.data.toList.length) := Lib.hid (by rw [hls.out]; exact hbig)
    have HCG : Hid (∀ W, Turn (fun _ => False) W4 W → ∀ k, k < n → ∃ g, AP = some ⟨g, 0, none⟩ ∧ W.cell? ⟨g, k, none⟩ = some (.int .i64 ((st.getD k 0 : Nat) : Int))) := Lib.hid (fun W hW k hk => by
      obtain ⟨g, e, hgl, cg⟩ := HI.out k _ (il9_at st k (by rw [HN.out]; exact hk))
      exact ⟨g, e, (World.cell?_of_block (w := w) (a := ⟨g, k, none⟩) ((T4.out.trans hW).block g hgl (fun h => h))).trans cg⟩)
    clear hbig
    obtain ⟨R, hR⟩ : ∃ R, wr9 fr st D s.data.toList = R := ⟨_, rfl⟩
    have HR := Lib.hid hR
    rw [hR]
    clear hR
    go_enter Tryd.func26, Tryd.ntmps26
    go_wp2_with fail
    clear hW1 hW2 hW3 hW4
    go_loopw [10, 11, 12] (fun v10 v11 v12 wr => ∃ (k : Nat), k ≤ n ∧ v10 = .int .i64 k ∧ Hid (∀ j, j < k → st.getD j 0 ≠ 0) ∧ Hid (Turn (fun _ => False) W4 wr)) (fun v10 _ _ _ => n - (intOf v10).toNat)
    case atStart => exact ⟨0, by omega, rfl, Lib.hid (fun j hj => by omega), Lib.hid (Turn.refl _ _)⟩
    case round =>
      obtain ⟨k, hk, rfl, HNZ, HTK⟩ := hrel
      obtain ⟨wx, rfl⟩ : ∃ W, W = wr := ⟨_, rfl⟩
      have TX := HTK
      obtain ⟨x0, x1⟩ := BPW.out wx (HTK.out.mono (fun _ _ h => h.elim))
      by_cases hlt : k < n
      · have hl1 : (k : Int) < (n : Int) := by omega
        have hl0 : (0 : Int) ≤ (k : Int) := by omega
        have hq := wrap_of ((k : Int) + 1) (by omega) (by omega)
        obtain ⟨g, rfl, cg⟩ := HCG.out wx HTK.out k hlt
        by_cases h2 : st.getD k 0 = 0
        · have hfs : fst9 st = some k := fst9_at (by rw [HN.out]; exact hlt) h2 HNZ.out
          have HV := Lib.hid (wr9_case (fr := fr) (D := D) hbl.out hfs)
          have HR0 := Lib.hid (HR.out.symm.trans HV.out)
          have HO := Lib.hid (fun W hW => HOV.out W k hW hlt hle)
          have HNW : Hid (k < st.length) := Lib.hid (by rw [HN.out]; exact hlt)
          clear HV HR
          generalize putk 8 D ((fr + 8 * k : Nat) : Int) s.data.toList = RP at *
          obtain ⟨D1, E⟩ := RP
          simp only at HR0
          have HW : Hid (∀ (W : World), Turn (fun _ => False) wx W → Calls Tryd.prog 36 #[.agg #[.int .i64 fr, .slice (some ⟨g, 0, none⟩) n cP], .agg #[.int .i64 (D.kept.length : Int), .slice A ks.length c, .slice B D.pend.length d, .int .i64 D.fuse, .bool D.dead], .int .i64 k, .string s] W fun r w' => ∃ v, r = .returned v ∧ ∃ B' d', v = .tuple #[.agg #[.int .i64 (D1.kept.length : Int), .slice A ks.length c, .slice B' D1.pend.length d', .int .i64 D1.fuse, .bool D1.dead], .int .i64 E] ∧ Rg (fun k => S k ∨ k = q2 ∨ k = q3) w' D1 ks A c B' d' ∧ Turn (fun _ => False) W w') := Lib.hid (fun W hW => (HO.out W (HTK.out.trans hW)).mono (by rintro e w' ⟨B', d', rfl, h1, h2⟩; exact ⟨_, rfl, B', d', rfl, h1, h2⟩))
          rw [h2] at cg
          clear h2 hfs HO x0 x1
          obtain ⟨x0, x1⟩ := BPW.out wx (HTK.out.mono (fun _ _ h => h.elim))
          obtain ⟨y0, y1, y2, y3, y4⟩ := BDW.out wx (HTK.out.mono (fun _ _ h => h.elim))
          go_wp2_with fail
          refine (HW.out wx (Turn.refl _ _)).mono ?_
          rintro e w5 ⟨v5, rfl, B5, d5, rfl, hg5, ht5⟩
          obtain ⟨W6, hW6⟩ : ∃ W, w5.alloc (.cells #[.int .i64 0, .slice none 0 0, .slice none 0 0, .int .i64 0, .bool false] 32) = W := ⟨_, rfl⟩
          have N6 : Hid (Blk W6 w5.heap.size 32 [.int .i64 0, .slice none 0 0, .slice none 0 0, .int .i64 0, .bool false]) := Lib.hid (hW6 ▸ Blk.new _ _ _)
          have t6 : Turn (fun _ => False) w5 W6 := hW6 ▸ (Turn.refl _ _).alloc _
          obtain ⟨r0, r1, r2, r3, r4, f0, f1, f2, f3, f4⟩ := cells5f N6.out
          obtain ⟨hb7, ht7⟩ := put5d N6.out (.int .i64 (D1.kept.length : Int)) (.slice A ks.length c) (.slice B5 D1.pend.length d5) (.int .i64 D1.fuse) (.bool D1.dead)
          have hb6 := N6.out.lt
          have hz5 := ht5.size
          obtain ⟨xb, hxb⟩ : ∃ x, w5.heap.size = x := ⟨_, rfl⟩
          have hS5 : Hid (∀ k, k = xb → ¬ (S k ∨ k = q2 ∨ k = q3)) := Lib.hid (fun k hk h => by have := HSZ.out w5 (Nat.le_trans HTK.out.size ht5.size) k h; omega)
          have G6 : Hid (Rg (fun k => (S k ∨ k = q2 ∨ k = q3) ∨ k = xb) W6 D1 ks A c B5 d5) := Lib.hid ((hg5.plus9 (by omega)).still t6)
          rw [hxb] at r0 r1 r2 r3 r4 f0 f1 f2 f3 f4 hb7 ht7 hb6
          obtain ⟨X7, hX7⟩ : ∃ W, ((((W6.setCell ⟨xb, 0, none⟩ (.int .i64 (D1.kept.length : Int))).setCell ⟨xb, 1, none⟩ (.slice A ks.length c)).setCell ⟨xb, 2, none⟩ (.slice B5 D1.pend.length d5)).setCell ⟨xb, 3, none⟩ (.int .i64 D1.fuse)).setCell ⟨xb, 4, none⟩ (.bool D1.dead) = W := ⟨_, rfl⟩
          rw [hX7] at hb7 ht7
          have N7 : Hid (Blk X7 xb 32 (rdc D1 ks A c B5 d5)) := Lib.hid hb7
          have G7 : Hid (Rg (fun k => S k ∨ k = q2 ∨ k = q3) X7 D1 ks A c B5 d5) := Lib.hid (G6.out.stp ⟨ht7.mono (fun _ _ h => .inr h), fun _ h => .inl h⟩).less9
          have T7 : Hid (Turn (fun _ => False) W4 X7) := Lib.hid ((HTK.out.trans (ht5.trans t6)).trans_new ht7 (fun j hj e => by have := HTK.out.size; omega))
          have P7 : Hid (Rd9 (fun k => S k ∨ k = q2 ∨ k = q3) X7 (.slice (some ⟨g, 0, none⟩) n cP) (il9 st)) := Lib.hid (HP4.out.still T7.out)
          have HXQ : Hid (W4.heap.size ≤ xb) := Lib.hid (by have := HTK.out.size; omega)
          clear hg5 ht5 t6 hb7 ht7 hz5 x0 x1 y0 y1 y2 y3 y4 cg
          by_cases hE : E = 0
          · subst hE
            have hRR := HR0.out
            rw [if_pos rfl] at hRR
            subst hRR
            go_wp2_with fail
            -- R 10
            have HWI : Hid (∀ W : World, Turn (fun _ => False) W4 W → Rd9 (fun k => S k ∨ k = q2 ∨ k = q3) W (.slice (some ⟨g, 0, none⟩) n cP) (il9 st) → Calls Tryd.prog 40 #[.agg #[.int .i64 fr, .slice (some ⟨g, 0, none⟩) n cP], .int .i64 k, .int .i64 2] W fun r w' => ∃ v, r = .returned v ∧ ∃ A' c', v = .agg #[.int .i64 fr, .slice A' n c'] ∧ Rd9 (fun k => S k ∨ k = q2 ∨ k = q3) w' (.slice A' n c') (il9 (st.set k 2)) ∧ Turn (fun _ => False) W w') := Lib.hid (fun W hW hR => by
              refine (with_d (HSZ.out W hW.size) hR fr k (by rw [len_il9]; exact HNW.out) (by rw [len_il9, HN.out]; omega) (2 : Int)).mono fun e w' ⟨v', h1, h2, h3⟩ => ?_
              rw [show (2 : Int) = ((2 : Nat) : Int) from rfl, il9_set] at h2
              obtain ⟨A', c', rfl, _, _⟩ := h2.ir
              rw [len_il9, List.length_set, HN.out] at h1 h2
              exact ⟨_, h1, A', c', rfl, h2, h3⟩)
            have BPX : Hid (∀ W, Turn (fun k => k = q2 ∨ k = q3) X7 W → W.cell? ⟨w.heap.size, 0, none⟩ = some (.int .i64 fr) ∧ W.cell? ⟨w.heap.size, 1, none⟩ = some (.slice (some ⟨g, 0, none⟩) n cP)) := Lib.hid (fun W hW => BPW.out W ((T7.out.mono (fun _ _ h => h.elim)).trans hW))
            have BXX : Hid (∀ W, Turn (fun k => k = q2 ∨ k = q3) X7 W → W.cell? ⟨xb, 0, none⟩ = some (.int .i64 (D1.kept.length : Int)) ∧ W.cell? ⟨xb, 1, none⟩ = some (.slice A ks.length c) ∧ W.cell? ⟨xb, 2, none⟩ = some (.slice B5 D1.pend.length d5) ∧ W.cell? ⟨xb, 3, none⟩ = some (.int .i64 D1.fuse) ∧ W.cell? ⟨xb, 4, none⟩ = some (.bool D1.dead)) := Lib.hid (fun W hW => cells5 (N7.out.turn hW (fun h => hS5.out xb rfl (.inr h))))
            refine wp_region_noPanic ?_
            refine wp_region_held_drew (S := fun X => Turn (fun k => k = q2 ∨ k = q3) X7 X) (by kernel_rfl) ((Turn.refl (fun k => k = q2 ∨ k = q3) X7).drew) (fun hHeld => ?_)
            refine wpAnyH_named9 (fun X0 hX0 => ?_)
            have TD : Hid (Turn (fun _ => False) X7 X0) := Lib.hid (by rw [hX0]; exact (Turn.refl _ _).drew)
            have T0 : Hid (Turn (fun _ => False) W4 X0) := Lib.hid (T7.out.trans TD.out)
            have hH0 := TD.out.mono (T := fun k => k = q2 ∨ k = q3) (fun _ _ h => h.elim)
            have PX := Lib.hid (P7.out.still TD.out)
            have GX := Lib.hid (G7.out.still TD.out)
            clear hHeld hX0
            refine wpAnyH_take (i := 0) (v := ?_) rfl (by kernel_rfl) (by kernel_rfl) (by kernel_rfl) (fun _ _ _ h => h) (Or.inl ⟨by rfl, ?_⟩) (by assumption) ?_
            rotate_left 1
            · intro w' hSw
              obtain ⟨x0, x1⟩ := BPX.out _ hSw
              go_simp
              all_goals first | with_reducible rfl | (rw [if_neg (by omega)]; done) | (rw [if_neg (by omega)]; with_reducible rfl)
            try simp only [List.getElem_toArray, List.getElem_cons_zero, List.getElem_cons_succ, Act.put, List.setIfInBounds_toArray, List.set_cons_zero, List.set_cons_succ]
            refine wpAnyH_take (i := 1) (v := ?_) rfl (by kernel_rfl) (by kernel_rfl) (by kernel_rfl) (fun _ _ _ h => h) (Or.inl ⟨by rfl, ?_⟩) (by assumption) ?_
            rotate_left 1
            · intro w' hSw
              go_simp
              all_goals first | with_reducible rfl | (rw [if_neg (by omega)]; done) | (rw [if_neg (by omega)]; with_reducible rfl)
            try simp only [List.getElem_toArray, List.getElem_cons_zero, List.getElem_cons_succ, Act.put, List.setIfInBounds_toArray, List.set_cons_zero, List.set_cons_succ]
            refine wpAnyH_take (i := 3) (v := ?_) rfl (by kernel_rfl) (by kernel_rfl) (by kernel_rfl) (fun _ _ _ h => h) (Or.inl ⟨by rfl, ?_⟩) (by assumption) ?_
            rotate_left 1
            · intro w' hSw
              obtain ⟨y0, y1, y2, y3, y4⟩ := BXX.out _ hSw
              go_simp
              all_goals first | with_reducible rfl | (rw [if_neg (by omega)]; done) | (rw [if_neg (by omega)]; with_reducible rfl)
            try simp only [List.getElem_toArray, List.getElem_cons_zero, List.getElem_cons_succ, Act.put, List.setIfInBounds_toArray, List.set_cons_zero, List.set_cons_succ]
            refine wpAnyH_take (i := 4) (v := ?_) rfl (by kernel_rfl) (by kernel_rfl) (by kernel_rfl) (fun _ _ _ h => h) (Or.inl ⟨by rfl, ?_⟩) (by assumption) ?_
            rotate_left 1
            · intro w' hSw
              go_simp
              all_goals first | with_reducible rfl | (rw [if_neg (by omega)]; done) | (rw [if_neg (by omega)]; with_reducible rfl)
            try simp only [List.getElem_toArray, List.getElem_cons_zero, List.getElem_cons_succ, Act.put, List.setIfInBounds_toArray, List.set_cons_zero, List.set_cons_succ]
            refine wpAnyH_ready (rs := [2]) (by kernel_rfl) (by simp) ?_
            refine AllReadyH.cons rfl (fun K hK => ?_) AllReadyH.nil
            refine step_call rfl 40 Tryd.f40 _ _ rfl Tryd.func40 (by kernel_rfl) (by kernel_rfl) _ _ (HWI.out X0 T0.out PX.out) (by go_simp) ?_
            rintro v8 w8 ⟨A8, c8, rfl, hr8, ht8⟩
            have T8 := Lib.hid (T0.out.trans ht8)
            have P8 := Lib.hid hr8
            have G8 := Lib.hid (GX.out.still ht8)
            have hH8 := hH0.trans (ht8.mono (T := fun k => k = q2 ∨ k = q3) (fun _ _ h => h.elim))
            clear hr8 ht8
            refine hK.out _ _ hH8 (fun hHeld => ?_)
            clear hK K hHeld
            try simp only [List.getElem_toArray, List.getElem_cons_zero, List.getElem_cons_succ, Act.put, List.setIfInBounds_toArray, List.set_cons_zero, List.set_cons_succ]
            refine wpAnyH_ready (rs := [5]) (by kernel_rfl) (by simp) ?_
            refine AllReadyH.cons rfl (fun K hK => ?_) AllReadyH.nil
            obtain ⟨⟨z0, z1, g0, g1⟩, HFA⟩ := FIN.out w8 A8 c8 _ D1 B5 d5 P8.out G8.out T8.out
            go_simp
            refine hK.out _ _ ((hH8.setCell (p := ⟨q2, 0, none⟩) (.inl (.inl rfl)) _).setCell (p := ⟨q2, 1, none⟩) (.inl (.inl rfl)) _) (fun hHeld => ?_)
            refine wpAnyH_named9 (fun X1 e1 => ?_)
            obtain ⟨⟨z2, z3, z4, z5, z6, g2, g3, g4, g5, g6⟩, hfb⟩ := HFA.out X1 e1
            have HFB := Lib.hid hfb
            have hH1 : Turn (fun k => k = q2 ∨ k = q3) X7 X1 := by rw [e1]; exact (hH8.setCell (p := ⟨q2, 0, none⟩) (.inl (.inl rfl)) _).setCell (p := ⟨q2, 1, none⟩) (.inl (.inl rfl)) _
            clear hK K hHeld e1 HFA hfb z0 z1 g0 g1
            try simp only [List.getElem_toArray, List.getElem_cons_zero, List.getElem_cons_succ, Act.put, List.setIfInBounds_toArray, List.set_cons_zero, List.set_cons_succ]
            refine wpAnyH_ready (rs := [6]) (by kernel_rfl) (by simp) ?_
            refine AllReadyH.cons rfl (fun K hK => ?_) AllReadyH.nil
            go_simp
            have hS2 := ((((hH1.setCell (p := ⟨q3, 0, none⟩) (.inl (.inr rfl)) (.int .i64 (D1.kept.length : Int))).setCell (p := ⟨q3, 1, none⟩) (.inl (.inr rfl)) (.slice A ks.length c)).setCell (p := ⟨q3, 2, none⟩) (.inl (.inr rfl)) (.slice B5 D1.pend.length d5)).setCell (p := ⟨q3, 3, none⟩) (.inl (.inr rfl)) (.int .i64 D1.fuse)).setCell (p := ⟨q3, 4, none⟩) (.inl (.inr rfl)) (.bool D1.dead)
            refine hK.out _ _ hS2 (fun hHeld => ?_)
            refine wpAnyH_named9 (fun X2 e2 => ?_)
            have HFC := Lib.hid (HFB.out X2 e2)
            have hH2 : Turn (fun k => k = q2 ∨ k = q3) X7 X2 := by rw [e2]; exact hS2
            clear hK K hHeld e2 HFB z2 z3 z4 z5 z6 g2 g3 g4 g5 g6 hS2
            try simp only [List.getElem_toArray, List.getElem_cons_zero, List.getElem_cons_succ, Act.put, List.setIfInBounds_toArray, List.set_cons_zero, List.set_cons_succ]
            refine wpAnyH_take (i := 7) (v := ?_) rfl (by kernel_rfl) (by kernel_rfl) (by kernel_rfl) (fun _ _ _ h => h) (Or.inl ⟨by rfl, ?_⟩) (by assumption) ?_
            rotate_left 1
            · intro w' hSw
              go_simp
              all_goals first | with_reducible rfl | (rw [if_neg (by omega)]; done) | (rw [if_neg (by omega)]; with_reducible rfl)
            try simp only [List.getElem_toArray, List.getElem_cons_zero, List.getElem_cons_succ, Act.put, List.setIfInBounds_toArray, List.set_cons_zero, List.set_cons_succ]
            refine wpAnyH_take (i := 8) (v := ?_) rfl (by kernel_rfl) (by kernel_rfl) (by kernel_rfl) (fun _ _ _ h => h) (Or.inl ⟨by rfl, ?_⟩) (by assumption) ?_
            rotate_left 1
            · intro w' hSw
              go_simp
              all_goals first | with_reducible rfl | (rw [if_neg (by omega)]; done) | (rw [if_neg (by omega)]; with_reducible rfl)
            try simp only [List.getElem_toArray, List.getElem_cons_zero, List.getElem_cons_succ, Act.put, List.setIfInBounds_toArray, List.set_cons_zero, List.set_cons_succ]
            refine wpAnyH_done (by kernel_rfl) ?_ _
            refine NoPanic.normal ?_
            go_wp2_with fail
            obtain ⟨⟨s0, s1⟩, ⟨t0, t1, t2, t3, t4⟩, hr9, hg9, ht9⟩ := HFC.out
            exact bodyPost_ret (v := .tuple #[.agg #[.int .i64 fr, .slice A8 n c8], .agg #[.int .i64 (D1.kept.length : Int), .slice A ks.length c, .slice B5 D1.pend.length d5, .int .i64 D1.fuse, .bool D1.dead], .int .i64 k, .int .i64 0]) (by simp [results, Tryd.results26, go_sem, t0, t1, t2, t3, t4, s0, s1]) rfl ⟨_, B5, d5, rfl, hr9, hg9, ht9⟩
            -- R 10 end
          · have hRR := HR0.out
            rw [if_neg hE] at hRR
            subst hRR
            have hE2 : (E != 0) = true := by simpa using hE
            go_wp2_with fail
            -- R 9
            have BPX : Hid (∀ W, Turn (fun k => k = q2 ∨ k = q3) X7 W → W.cell? ⟨w.heap.size, 0, none⟩ = some (.int .i64 fr) ∧ W.cell? ⟨w.heap.size, 1, none⟩ = some (.slice (some ⟨g, 0, none⟩) n cP)) := Lib.hid (fun W hW => BPW.out W ((T7.out.mono (fun _ _ h => h.elim)).trans hW))
            have BXX : Hid (∀ W, Turn (fun k => k = q2 ∨ k = q3) X7 W → W.cell? ⟨xb, 0, none⟩ = some (.int .i64 (D1.kept.length : Int)) ∧ W.cell? ⟨xb, 1, none⟩ = some (.slice A ks.length c) ∧ W.cell? ⟨xb, 2, none⟩ = some (.slice B5 D1.pend.length d5) ∧ W.cell? ⟨xb, 3, none⟩ = some (.int .i64 D1.fuse) ∧ W.cell? ⟨xb, 4, none⟩ = some (.bool D1.dead)) := Lib.hid (fun W hW => cells5 (N7.out.turn hW (fun h => hS5.out xb rfl (.inr h))))
            refine wp_region_noPanic ?_
            refine wp_region_held_drew (S := fun X => Turn (fun k => k = q2 ∨ k = q3) X7 X) (by kernel_rfl) ((Turn.refl (fun k => k = q2 ∨ k = q3) X7).drew) (fun hHeld => ?_)
            refine wpAnyH_named9 (fun X0 hX0 => ?_)
            have TD : Hid (Turn (fun _ => False) X7 X0) := Lib.hid (by rw [hX0]; exact (Turn.refl _ _).drew)
            have T0 : Hid (Turn (fun _ => False) W4 X0) := Lib.hid (T7.out.trans TD.out)
            have hH0 := TD.out.mono (T := fun k => k = q2 ∨ k = q3) (fun _ _ h => h.elim)
            have PX := Lib.hid (P7.out.still TD.out)
            have GX := Lib.hid (G7.out.still TD.out)
            clear hHeld hX0
            refine wpAnyH_take (i := 0) (v := ?_) rfl (by kernel_rfl) (by kernel_rfl) (by kernel_rfl) (fun _ _ _ h => h) (Or.inl ⟨by rfl, ?_⟩) (by assumption) ?_
            rotate_left 1
            · intro w' hSw
              obtain ⟨x0, x1⟩ := BPX.out _ hSw
              go_simp
              all_goals first | with_reducible rfl | (rw [if_neg (by omega)]; done) | (rw [if_neg (by omega)]; with_reducible rfl)
            try simp only [List.getElem_toArray, List.getElem_cons_zero, List.getElem_cons_succ, Act.put, List.setIfInBounds_toArray, List.set_cons_zero, List.set_cons_succ]
            refine wpAnyH_take (i := 1) (v := ?_) rfl (by kernel_rfl) (by kernel_rfl) (by kernel_rfl) (fun _ _ _ h => h) (Or.inl ⟨by rfl, ?_⟩) (by assumption) ?_
            rotate_left 1
            · intro w' hSw
              obtain ⟨y0, y1, y2, y3, y4⟩ := BXX.out _ hSw
              go_simp
              all_goals first | with_reducible rfl | (rw [if_neg (by omega)]; done) | (rw [if_neg (by omega)]; with_reducible rfl)
            try simp only [List.getElem_toArray, List.getElem_cons_zero, List.getElem_cons_succ, Act.put, List.setIfInBounds_toArray, List.set_cons_zero, List.set_cons_succ]
            refine wpAnyH_take (i := 2) (v := ?_) rfl (by kernel_rfl) (by kernel_rfl) (by kernel_rfl) (fun _ _ _ h => h) (Or.inl ⟨by rfl, ?_⟩) (by assumption) ?_
            rotate_left 1
            · intro w' hSw
              go_simp
              all_goals first | with_reducible rfl | (rw [if_neg (by omega)]; done) | (rw [if_neg (by omega)]; with_reducible rfl)
            try simp only [List.getElem_toArray, List.getElem_cons_zero, List.getElem_cons_succ, Act.put, List.setIfInBounds_toArray, List.set_cons_zero, List.set_cons_succ]
            refine wpAnyH_ready (rs := [3]) (by kernel_rfl) (by simp) ?_
            refine AllReadyH.cons rfl (fun K hK => ?_) AllReadyH.nil
            obtain ⟨⟨z0, z1, g0, g1⟩, HFA⟩ := FIN.out X0 (some ⟨g, 0, none⟩) cP _ D1 B5 d5 PX.out GX.out T0.out
            go_simp
            refine hK.out _ _ ((hH0.setCell (p := ⟨q2, 0, none⟩) (.inl (.inl rfl)) _).setCell (p := ⟨q2, 1, none⟩) (.inl (.inl rfl)) _) (fun hHeld => ?_)
            refine wpAnyH_named9 (fun X1 e1 => ?_)
            obtain ⟨⟨z2, z3, z4, z5, z6, g2, g3, g4, g5, g6⟩, hfb⟩ := HFA.out X1 e1
            have HFB := Lib.hid hfb
            have hH1 : Turn (fun k => k = q2 ∨ k = q3) X7 X1 := by rw [e1]; exact (hH0.setCell (p := ⟨q2, 0, none⟩) (.inl (.inl rfl)) _).setCell (p := ⟨q2, 1, none⟩) (.inl (.inl rfl)) _
            clear hK K hHeld e1 HFA hfb z0 z1 g0 g1
            try simp only [List.getElem_toArray, List.getElem_cons_zero, List.getElem_cons_succ, Act.put, List.setIfInBounds_toArray, List.set_cons_zero, List.set_cons_succ]
            refine wpAnyH_ready (rs := [4]) (by kernel_rfl) (by simp) ?_
            refine AllReadyH.cons rfl (fun K hK => ?_) AllReadyH.nil
            go_simp
            have hS2 := ((((hH1.setCell (p := ⟨q3, 0, none⟩) (.inl (.inr rfl)) (.int .i64 (D1.kept.length : Int))).setCell (p := ⟨q3, 1, none⟩) (.inl (.inr rfl)) (.slice A ks.length c)).setCell (p := ⟨q3, 2, none⟩) (.inl (.inr rfl)) (.slice B5 D1.pend.length d5)).setCell (p := ⟨q3, 3, none⟩) (.inl (.inr rfl)) (.int .i64 D1.fuse)).setCell (p := ⟨q3, 4, none⟩) (.inl (.inr rfl)) (.bool D1.dead)
            refine hK.out _ _ hS2 (fun hHeld => ?_)
            refine wpAnyH_named9 (fun X2 e2 => ?_)
            have HFC := Lib.hid (HFB.out X2 e2)
            have hH2 : Turn (fun k => k = q2 ∨ k = q3) X7 X2 := by rw [e2]; exact hS2
            clear hK K hHeld e2 HFB z2 z3 z4 z5 z6 g2 g3 g4 g5 g6 hS2
            try simp only [List.getElem_toArray, List.getElem_cons_zero, List.getElem_cons_succ, Act.put, List.setIfInBounds_toArray, List.set_cons_zero, List.set_cons_succ]
            refine wpAnyH_take (i := 5) (v := ?_) rfl (by kernel_rfl) (by kernel_rfl) (by kernel_rfl) (fun _ _ _ h => h) (Or.inl ⟨by rfl, ?_⟩) (by assumption) ?_
            rotate_left 1
            · intro w' hSw
              go_simp
              all_goals first | with_reducible rfl | (rw [if_neg (by omega)]; done) | (rw [if_neg (by omega)]; with_reducible rfl)
            try simp only [List.getElem_toArray, List.getElem_cons_zero, List.getElem_cons_succ, Act.put, List.setIfInBounds_toArray, List.set_cons_zero, List.set_cons_succ]
            refine wpAnyH_take (i := 6) (v := ?_) rfl (by kernel_rfl) (by kernel_rfl) (by kernel_rfl) (fun _ _ _ h => h) (Or.inl ⟨by rfl, ?_⟩) (by assumption) ?_
            rotate_left 1
            · intro w' hSw
              go_simp
              all_goals first | with_reducible rfl | (rw [if_neg (by omega)]; done) | (rw [if_neg (by omega)]; with_reducible rfl)
            try simp only [List.getElem_toArray, List.getElem_cons_zero, List.getElem_cons_succ, Act.put, List.setIfInBounds_toArray, List.set_cons_zero, List.set_cons_succ]
            refine wpAnyH_done (by kernel_rfl) ?_ _
            refine NoPanic.normal ?_
            go_wp2_with fail
            obtain ⟨⟨s0, s1⟩, ⟨t0, t1, t2, t3, t4⟩, hr9, hg9, ht9⟩ := HFC.out
            exact bodyPost_ret (v := .tuple #[.agg #[.int .i64 fr, .slice (some ⟨g, 0, none⟩) n cP], .agg #[.int .i64 (D1.kept.length : Int), .slice A ks.length c, .slice B5 D1.pend.length d5, .int .i64 D1.fuse, .bool D1.dead], .int .i64 0, .int .i64 E]) (by simp [results, Tryd.results26, go_sem, t0, t1, t2, t3, t4, s0, s1]) rfl ⟨_, B5, d5, rfl, hr9, hg9, ht9⟩
            -- R 9 end
        · have n2 : ¬ ((st.getD k 0 : Nat) : Int) = (0 : Int) := fun h => h2 (by omega)
          have e2 : (((st.getD k 0 : Nat) : Int) == (0 : Int)) = false := beq_eq_false_iff_ne.2 n2
          have HNZ2 : Hid (∀ j, j < k + 1 → st.getD j 0 ≠ 0) := Lib.hid (fun j hj => by
            rcases Nat.lt_or_ge j k with h | h
            · exact HNZ.out j h
            · have : j = k := by omega
              rw [this]; exact h2)
          clear h2
          generalize st.getD k 0 = X at *
          go_wp2_with fail
          go_roundw
          case rel => exact ⟨k + 1, by omega, by simp [hq], HNZ2, HTK⟩
          case measure => simp [intOf, hq]; omega
      · obtain rfl : k = n := by omega
        have hfs : fst9 st = none := by
          unfold fst9
          rw [List.find?_eq_none]
          intro j hj
          have hj2 := List.mem_range.1 hj
          rw [HN.out] at hj2
          simpa using HNZ.out j hj2
        have HV : Hid (wr9 fr st D s.data.toList = (st, D, 0, 10)) := Lib.hid (wr9_no hbl.out hfs)
        have hR0 : R = (st, D, 0, 10) := HR.out.symm.trans HV.out
        subst hR0
        clear hfs
        go_wp2_with fail
        clear x0 x1
        -- R 11
        refine wp_region_noPanic ?_
        refine wp_region_held_drew (S := fun X => Turn (fun k => k = q2 ∨ k = q3) W4 X) (by kernel_rfl) ((TX.out.mono (T := fun k => k = q2 ∨ k = q3) (fun _ _ h => h.elim)).drew) (fun hHeld => ?_)
        refine wpAnyH_named9 (fun X0 hX0 => ?_)
        have T0 : Hid (Turn (fun _ => False) W4 X0) := Lib.hid (by rw [hX0]; exact TX.out.drew)
        have hH0 := T0.out.mono (T := fun k => k = q2 ∨ k = q3) (fun _ _ h => h.elim)
        clear hHeld hX0
        refine wpAnyH_take (i := 0) (v := ?_) rfl (by kernel_rfl) (by kernel_rfl) (by kernel_rfl) (fun _ _ _ h => h) (Or.inl ⟨by rfl, ?_⟩) (by assumption) ?_
        rotate_left 1
        · intro w' hSw
          obtain ⟨x0, x1⟩ := BPW.out _ hSw
          go_simp
          all_goals first | with_reducible rfl | (rw [if_neg (by omega)]; done) | (rw [if_neg (by omega)]; with_reducible rfl)
        try simp only [List.getElem_toArray, List.getElem_cons_zero, List.getElem_cons_succ, Act.put, List.setIfInBounds_toArray, List.set_cons_zero, List.set_cons_succ]
        refine wpAnyH_take (i := 1) (v := ?_) rfl (by kernel_rfl) (by kernel_rfl) (by kernel_rfl) (fun _ _ _ h => h) (Or.inl ⟨by rfl, ?_⟩) (by assumption) ?_
        rotate_left 1
        · intro w' hSw
          obtain ⟨y0, y1, y2, y3, y4⟩ := BDW.out _ hSw
          go_simp
          all_goals first | with_reducible rfl | (rw [if_neg (by omega)]; done) | (rw [if_neg (by omega)]; with_reducible rfl)
        try simp only [List.getElem_toArray, List.getElem_cons_zero, List.getElem_cons_succ, Act.put, List.setIfInBounds_toArray, List.set_cons_zero, List.set_cons_succ]
        refine wpAnyH_ready (rs := [2]) (by kernel_rfl) (by simp) ?_
        refine AllReadyH.cons rfl (fun K hK => ?_) AllReadyH.nil
        obtain ⟨⟨z0, z1, g0, g1⟩, HFA⟩ := FIN.out X0 AP cP _ D B d (HP4.out.still T0.out) (HG4.out.still T0.out) T0.out
        go_simp
        refine hK.out _ _ ((hH0.setCell (p := ⟨q2, 0, none⟩) (.inl (.inl rfl)) _).setCell (p := ⟨q2, 1, none⟩) (.inl (.inl rfl)) _) (fun hHeld => ?_)
        refine wpAnyH_named9 (fun X1 e1 => ?_)
        obtain ⟨⟨z2, z3, z4, z5, z6, g2, g3, g4, g5, g6⟩, hfb⟩ := HFA.out X1 e1
        have HFB := Lib.hid hfb
        have hH1 : Turn (fun k => k = q2 ∨ k = q3) W4 X1 := by rw [e1]; exact (hH0.setCell (p := ⟨q2, 0, none⟩) (.inl (.inl rfl)) _).setCell (p := ⟨q2, 1, none⟩) (.inl (.inl rfl)) _
        clear hK K hHeld e1 HFA hfb z0 z1 g0 g1
        try simp only [List.getElem_toArray, List.getElem_cons_zero, List.getElem_cons_succ, Act.put, List.setIfInBounds_toArray, List.set_cons_zero, List.set_cons_succ]
        refine wpAnyH_ready (rs := [3]) (by kernel_rfl) (by simp) ?_
        refine AllReadyH.cons rfl (fun K hK => ?_) AllReadyH.nil
        go_simp
        have hS2 := ((((hH1.setCell (p := ⟨q3, 0, none⟩) (.inl (.inr rfl)) (.int .i64 (D.kept.length : Int))).setCell (p := ⟨q3, 1, none⟩) (.inl (.inr rfl)) (.slice A ks.length c)).setCell (p := ⟨q3, 2, none⟩) (.inl (.inr rfl)) (.slice B D.pend.length d)).setCell (p := ⟨q3, 3, none⟩) (.inl (.inr rfl)) (.int .i64 D.fuse)).setCell (p := ⟨q3, 4, none⟩) (.inl (.inr rfl)) (.bool D.dead)
        refine hK.out _ _ hS2 (fun hHeld => ?_)
        refine wpAnyH_named9 (fun X2 e2 => ?_)
        have HFC := Lib.hid (HFB.out X2 e2)
        have hH2 : Turn (fun k => k = q2 ∨ k = q3) W4 X2 := by rw [e2]; exact hS2
        clear hK K hHeld e2 HFB z2 z3 z4 z5 z6 g2 g3 g4 g5 g6 hS2
        try simp only [List.getElem_toArray, List.getElem_cons_zero, List.getElem_cons_succ, Act.put, List.setIfInBounds_toArray, List.set_cons_zero, List.set_cons_succ]
        refine wpAnyH_take (i := 4) (v := ?_) rfl (by kernel_rfl) (by kernel_rfl) (by kernel_rfl) (fun _ _ _ h => h) (Or.inl ⟨by rfl, ?_⟩) (by assumption) ?_
        rotate_left 1
        · intro w' hSw
          go_simp
          all_goals first | with_reducible rfl | (rw [if_neg (by omega)]; done) | (rw [if_neg (by omega)]; with_reducible rfl)
        try simp only [List.getElem_toArray, List.getElem_cons_zero, List.getElem_cons_succ, Act.put, List.setIfInBounds_toArray, List.set_cons_zero, List.set_cons_succ]
        refine wpAnyH_take (i := 5) (v := ?_) rfl (by kernel_rfl) (by kernel_rfl) (by kernel_rfl) (fun _ _ _ h => h) (Or.inl ⟨by rfl, ?_⟩) (by assumption) ?_
        rotate_left 1
        · intro w' hSw
          go_simp
          all_goals first | with_reducible rfl | (rw [if_neg (by omega)]; done) | (rw [if_neg (by omega)]; with_reducible rfl)
        try simp only [List.getElem_toArray, List.getElem_cons_zero, List.getElem_cons_succ, Act.put, List.setIfInBounds_toArray, List.set_cons_zero, List.set_cons_succ]
        refine wpAnyH_done (by kernel_rfl) ?_ _
        refine NoPanic.normal ?_
        go_wp2_with fail
        obtain ⟨⟨s0, s1⟩, ⟨t0, t1, t2, t3, t4⟩, hr9, hg9, ht9⟩ := HFC.out
        -- R 11 end
        exact bodyPost_ret (v := .tuple #[.agg #[.int .i64 fr, .slice AP k cP], .agg #[.int .i64 (D.kept.length : Int), .slice A ks.length c, .slice B D.pend.length d, .int .i64 D.fuse, .bool D.dead], .int .i64 0, .int .i64 10]) (by simp [results, Tryd.results26, go_sem, t0, t1, t2, t3, t4, s0, s1]) rfl ⟨_, B, d, rfl, hr9, hg9, ht9⟩
end Go.Proofs.YtmedljnbcpdoeaaDoor
/- Layer 9: the document's pager: New. -/
namespace Go.Proofs.YtmedljnbcpdoeaaDoor
open Go.RowKit Go.Maps
set_option linter.unusedVariables false
set_option linter.unusedSimpArgs false
set_option maxRecDepth 100000

/-- Is there no such pager? -/
def bad9 (K : Nat) (fr n : Int) : Prop := fr < 0 ∨ n < 1 ∨ (K : Int) / 8 < n ∨ (K : Int) - n * 8 < fr
theorem info_i9 : (Tryd.prog.info? 3).map (fun i => (i.zero, i.size, i.bytes)) = some (some (.int .i64 0), 1, 8) := by kernel_rfl
theorem make_ints9d (n : Nat) (hn : n ≤ 16384) (w : World) : (Instr.makeSlice 38 (.int .i64 n) (.int .i64 n)).run Tryd.prog w = .ok (.slice (some ⟨w.heap.size, 0, none⟩) n n) (w.alloc (.cells ((il9 (List.replicate n 0)).map (Value.int .i64)).toArray 3)) := by
  obtain ⟨i, hi, hz, hs, hb⟩ := info_parts_ info_i9
  have := run_makeSlice (P := Tryd.prog) (w := w) 38 3 i _ Tryd.underlying38 hi hz .i64 .i64 n n (Int.natCast_nonneg _) (Int.le_refl _) (by rw [hs]; simp; omega) (by rw [hb]; omega) (by omega)
  rw [this, hs, Int.toNat_natCast, Nat.mul_one, show (Value.int .i64 0).cells = (List.replicate 1 (Value.int .i64 0)).toArray from rfl, made_same 1 _ _ (by decide)]
  simp [il9]
set_option maxHeartbeats 2000000 in
theorem new_d (D : Dsk) (ks : List (List UInt8)) (A B : Option Addr) (c d : Nat) (hkm : D.kept.length ≤ 16384) (fr n : Int) (w : World) (hok : ¬ bad9 D.kept.length fr n) :
    Calls Tryd.prog 9 #[rd D ks A c B d, .int .i64 fr, .int .i64 n] w fun r w' => ∃ v, r = .returned (.tuple #[.agg #[.int .i64 fr, v], .int .i64 0]) ∧ Rw9 w.heap.size w' v (il9 (List.replicate n.toNat 0)) ∧ Turn (fun _ => False) w w' := by
  unfold bad9 at hok
  obtain ⟨m, rfl⟩ : ∃ m : Nat, n = m := ⟨n.toNat, by omega⟩
  rw [Int.toNat_natCast]
  obtain ⟨K, hK⟩ : ∃ K, D.kept.length = K := ⟨_, rfl⟩
  unfold rd
  rw [hK] at hok hkm ⊢
  have HKE := Lib.hid hK
  clear hK
  have k1 : ¬ fr < 0 := by omega
  have k2 : ¬ (m : Int) < 1 := by omega
  have k3 : ¬ (K : Int) / 8 < (m : Int) := by omega
  have k4 : ¬ (K : Int) - (m : Int) * 8 < fr := by omega
  have d1 : decide (fr < 0) = false := by simpa using k1
  have d2 : decide ((m : Int) < 1) = false := by simp; omega
  have d3 : decide ((K : Int) / 8 < (m : Int)) = false := by simp; omega
  have d4 : decide ((K : Int) - (m : Int) * 8 < fr) = false := by simp; omega
  have hm : m ≤ 2048 := by omega
  have w1 := wrap_of ((m : Int) * 8) (by omega) (by omega)
  have w2 := wrap_of ((K : Int) - (m : Int) * 8) (by omega) (by omega)
  obtain ⟨W1, hW1⟩ : ∃ W, w.alloc (.cells #[.int .i64 (K : Int), .slice A ks.length c, .slice B D.pend.length d, .int .i64 D.fuse, .bool D.dead] 32) = W := ⟨_, rfl⟩
  have C1 : Hid (Blk W1 w.heap.size 32 [.int .i64 (K : Int), .slice A ks.length c, .slice B D.pend.length d, .int .i64 D.fuse, .bool D.dead]) := Lib.hid (hW1 ▸ Blk.new _ _ _)
  have T1 : Hid (Turn (fun _ => False) w W1) := Lib.hid (hW1 ▸ (Turn.refl _ _).alloc _)
  obtain ⟨W2, hW2⟩ : ∃ W, W1.alloc (.cells #[.int .i64 0, .slice none 0 0] 40) = W := ⟨_, rfl⟩
  have E2 : Hid (Blk W2 W1.heap.size 40 [.int .i64 0, .slice none 0 0]) := Lib.hid (hW2 ▸ Blk.new _ _ _)
  have C2 : Hid (Blk W2 w.heap.size 32 [.int .i64 (K : Int), .slice A ks.length c, .slice B D.pend.length d, .int .i64 D.fuse, .bool D.dead]) := Lib.hid (hW2 ▸ C1.out.alloc _)
  have T2 : Hid (Turn (fun _ => False) w W2) := Lib.hid (hW2 ▸ T1.out.alloc _)
  have hmk := make_ints9d m (by omega) W2
  obtain ⟨W3, hW3⟩ : ∃ W, W2.alloc (.cells ((il9 (List.replicate m 0)).map (Value.int .i64)).toArray 3) = W := ⟨_, rfl⟩
  rw [hW3] at hmk
  have N3 : Hid (Blk W3 W2.heap.size 3 ((il9 (List.replicate m 0)).map (Value.int .i64))) := Lib.hid (hW3 ▸ Blk.new _ _ _)
  have E3 : Hid (Blk W3 W1.heap.size 40 [.int .i64 0, .slice none 0 0]) := Lib.hid (hW3 ▸ E2.out.alloc _)
  have T3 : Hid (Turn (fun _ => False) w W3) := Lib.hid (hW3 ▸ T2.out.alloc _)
  have hb1 := C1.out.lt
  have hb2 := E2.out.lt
  have hb3 := N3.out.lt
  obtain ⟨y0, _, _, _, _⟩ := cells5 C2.out
  obtain ⟨z0, z1, g0, g1⟩ := cells2 E3.out
  have HBX := Lib.hid (box2 E3.out (.int .i64 fr) (.slice (some ⟨W2.heap.size, 0, none⟩) m m))
  clear hok k1 k2 k3 k4
  go_enter Tryd.func9, Tryd.ntmps9
  go_wp2_with fail
  obtain ⟨CZ, TS, r0, r1⟩ := HBX.out
  have N4 := N3.out.turn TS (by omega)
  have hR : Rw9 w.heap.size ((W3.setCell ⟨W1.heap.size, 0, none⟩ (.int .i64 fr)).setCell ⟨W1.heap.size, 1, none⟩ (.slice (some ⟨W2.heap.size, 0, none⟩) m m)) (.slice (some ⟨W2.heap.size, 0, none⟩) m m) (il9 (List.replicate m 0)) := by
    unfold Rw9
    rw [len_il9, List.length_replicate]
    exact ⟨by simp [len_il9], .inr ⟨W2.heap.size, m, ((il9 (List.replicate m 0)).map (Value.int .i64)).toArray, rfl, by omega, N4, Nat.le_refl _, by unfold maxLen; omega, by simp [len_il9], by simp only [Nat.mul_one]; exact List.take_of_length_le (by simp [len_il9])⟩⟩
  exact bodyPost_ret (v := .tuple #[.agg #[.int .i64 fr, .slice (some ⟨W2.heap.size, 0, none⟩) m m], .int .i64 0]) (by simp [results, Tryd.results9, go_sem, r0, r1]) rfl ⟨_, rfl, hR, T3.out.trans_new TS (fun k hk e => by omega)⟩
theorem new_d_bad (D : Dsk) (ks : List (List UInt8)) (A B : Option Addr) (c d : Nat) (hkm : D.kept.length ≤ 16384) (fr n : Int) (hfr : -9223372036854775808 ≤ fr ∧ fr ≤ 9223372036854775807) (hn : -9223372036854775808 ≤ n ∧ n ≤ 9223372036854775807) (w : World) (hbad : bad9 D.kept.length fr n) :
    Calls Tryd.prog 9 #[rd D ks A c B d, .int .i64 fr, .int .i64 n] w fun r w' => r = .returned (.tuple #[.agg #[.int .i64 0, .slice none 0 0], .int .i64 2]) ∧ Turn (fun _ => False) w w' := by
  unfold bad9 at hbad
  obtain ⟨K, hK⟩ : ∃ K, D.kept.length = K := ⟨_, rfl⟩
  unfold rd
  rw [hK] at hbad hkm ⊢
  clear hK
  obtain ⟨W1, hW1⟩ : ∃ W, w.alloc (.cells #[.int .i64 (K : Int), .slice A ks.length c, .slice B D.pend.length d, .int .i64 D.fuse, .bool D.dead] 32) = W := ⟨_, rfl⟩
  have C1 : Hid (Blk W1 w.heap.size 32 [.int .i64 (K : Int), .slice A ks.length c, .slice B D.pend.length d, .int .i64 D.fuse, .bool D.dead]) := Lib.hid (hW1 ▸ Blk.new _ _ _)
  have T1 : Hid (Turn (fun _ => False) w W1) := Lib.hid (hW1 ▸ (Turn.refl _ _).alloc _)
  obtain ⟨W2, hW2⟩ : ∃ W, W1.alloc (.cells #[.int .i64 0, .slice none 0 0] 40) = W := ⟨_, rfl⟩
  have E2 : Hid (Blk W2 W1.heap.size 40 [.int .i64 0, .slice none 0 0]) := Lib.hid (hW2 ▸ Blk.new _ _ _)
  have C2 : Hid (Blk W2 w.heap.size 32 [.int .i64 (K : Int), .slice A ks.length c, .slice B D.pend.length d, .int .i64 D.fuse, .bool D.dead]) := Lib.hid (hW2 ▸ C1.out.alloc _)
  have T2 : Hid (Turn (fun _ => False) w W2) := Lib.hid (hW2 ▸ T1.out.alloc _)
  have hb1 := C1.out.lt
  obtain ⟨y0, _, _, _, _⟩ := cells5 C2.out
  obtain ⟨z0, z1, g0, g1⟩ := cells2 E2.out
  have HBX := Lib.hid (box2 E2.out (.int .i64 0) (.slice none 0 0))
  have HT : Hid (Turn (fun _ => False) w ((W2.setCell ⟨W1.heap.size, 0, none⟩ (.int .i64 0)).setCell ⟨W1.heap.size, 1, none⟩ (.slice none 0 0))) := Lib.hid (T2.out.trans_new HBX.out.2.1 (fun k hk e => by omega))
  by_cases k1 : fr < 0
  · have d1 : decide (fr < 0) = true := by simpa using k1
    clear hbad k1
    go_enter Tryd.func9, Tryd.ntmps9
    go_wp2_with fail
    obtain ⟨CZ, TS, r0, r1⟩ := HBX.out
    exact bodyPost_ret (v := .tuple #[.agg #[.int .i64 0, .slice none 0 0], .int .i64 2]) (by simp [results, Tryd.results9, go_sem, r0, r1]) rfl ⟨rfl, HT.out⟩
  · have d1 : decide (fr < 0) = false := by simpa using k1
    by_cases k2 : n < 1
    · have d2 : decide (n < 1) = true := by simpa using k2
      clear hbad k1 k2
      go_enter Tryd.func9, Tryd.ntmps9
      go_wp2_with fail
      obtain ⟨CZ, TS, r0, r1⟩ := HBX.out
      exact bodyPost_ret (v := .tuple #[.agg #[.int .i64 0, .slice none 0 0], .int .i64 2]) (by simp [results, Tryd.results9, go_sem, r0, r1]) rfl ⟨rfl, HT.out⟩
    · have d2 : decide (n < 1) = false := by simpa using k2
      by_cases k3 : (K : Int) / 8 < n
      · have d3 : decide ((K : Int) / 8 < n) = true := by simpa using k3
        clear hbad k1 k2 k3
        go_enter Tryd.func9, Tryd.ntmps9
        go_wp2_with fail
        obtain ⟨CZ, TS, r0, r1⟩ := HBX.out
        exact bodyPost_ret (v := .tuple #[.agg #[.int .i64 0, .slice none 0 0], .int .i64 2]) (by simp [results, Tryd.results9, go_sem, r0, r1]) rfl ⟨rfl, HT.out⟩
      · have d3 : decide ((K : Int) / 8 < n) = false := by simpa using k3
        have k4 : (K : Int) - n * 8 < fr := by omega
        have d4 : decide ((K : Int) - n * 8 < fr) = true := by simpa using k4
        have w1 := wrap_of (n * 8) (by omega) (by omega)
        have w2 := wrap_of ((K : Int) - n * 8) (by omega) (by omega)
        clear hbad k1 k2 k3 k4
        go_enter Tryd.func9, Tryd.ntmps9
        go_wp2_with fail
        obtain ⟨CZ, TS, r0, r1⟩ := HBX.out
        exact bodyPost_ret (v := .tuple #[.agg #[.int .i64 0, .slice none 0 0], .int .i64 2]) (by simp [results, Tryd.results9, go_sem, r0, r1]) rfl ⟨rfl, HT.out⟩
end Go.Proofs.YtmedljnbcpdoeaaDoor
/- Layer 9: Keep's two tests, as the document makes them: plain. -/
namespace Go.Proofs.YtmedljnbcpdoeaaDoor
open Go.RowKit
set_option linter.unusedVariables false

/-- Numbers that are pages', each once. -/
def Ap9 (n : Nat) (zs : List Int) : Prop := (∀ z ∈ zs, 0 ≤ z ∧ z < n) ∧ zs.Nodup
theorem Ap9.snoc {n : Nat} {l : List Int} (h : Ap9 n l) {z : Int} (h1 : 0 ≤ z) (h2 : z < n) (h3 : z ∉ l) : Ap9 n (l ++ [z]) := by
  refine ⟨fun x hx => ?_, ?_⟩
  · rcases List.mem_append.1 hx with h4 | h4
    · exact h.1 x h4
    · rw [List.mem_singleton.1 h4]; exact ⟨h1, h2⟩
  · rw [List.nodup_append]
    exact ⟨h.2, by simp, fun a ha b hb e => h3 (by rw [← List.mem_singleton.1 hb, ← e]; exact ha)⟩
theorem has7_at (st : List Nat) (k : Nat) (hk : k < st.length) : has7 (bits9 st) (k : Int) = (st.getD k 0 != 0) := by
  unfold has7
  rw [len_bits9, Int.toNat_natCast, bits9_at st k hk, decide_eq_true (by omega), Bool.true_and]
  rfl
theorem ap9_of (n : Nat) : ∀ (L : List Int) (s : List Bool), s.length = n → L.Nodup → (∀ z ∈ L, 0 ≤ z ∧ z < n ∧ s.getD z.toNat false = false) → ap9 n s L = true
  | [], s, _, _, _ => rfl
  | z :: t, s, hs, hn, h => by
    obtain ⟨h1, h2, h3⟩ := h z (by simp)
    rw [List.nodup_cons] at hn
    rw [ap9, if_pos ⟨h1, h2⟩, h3, if_neg (by decide)]
    refine ap9_of n t _ (by rw [List.length_set]; exact hs) hn.2 (fun y hy => ?_)
    obtain ⟨g1, g2, g3⟩ := h y (by simp [hy])
    refine ⟨g1, g2, ?_⟩
    have hne : z.toNat ≠ y.toNat := fun e => hn.1 (by have : z = y := by omega
                                                      rw [this]; exact hy)
    rw [List.getD_eq_getElem?_getD, List.getElem?_set, if_neg hne, ← List.getD_eq_getElem?_getD]
    exact g3
theorem apart9_iff (st : List Nat) (zs : List Int) : apart9 st zs = true ↔ Ap9 st.length zs := by
  unfold apart9
  constructor
  · intro h
    obtain ⟨h1, h2⟩ := ap9_spec st.length zs _ (by simp) h
    exact ⟨fun z hz => ⟨(h2 z hz).1, (h2 z hz).2.1⟩, h1⟩
  · rintro ⟨h1, h2⟩
    refine ap9_of st.length zs _ (by simp) h2 (fun z hz => ⟨(h1 z hz).1, (h1 z hz).2, ?_⟩)
    rw [List.getD_eq_getElem?_getD, List.getElem?_replicate]
    split <;> rfl
/-- A page that is none, or stands twice, refuses all. -/
theorem keep9_out {st : List Nat} {zs : List Int} {i : Nat} {z : Int} (hz : zs[i]? = some z) (h : ¬ (0 ≤ z ∧ z < st.length)) : keep9 st zs = (st, 2) := by
  unfold keep9
  rw [if_neg (fun e => h (((apart9_iff st zs).1 e).1 z (List.mem_of_getElem? hz)))]
theorem keep9_twice {st : List Nat} {zs : List Int} {i k : Nat} {z : Int} (hk : k < i) (hz : zs[i]? = some z) (hy : zs[k]? = some z) : keep9 st zs = (st, 2) := by
  unfold keep9
  rw [if_neg (fun e => by
    have hn := ((apart9_iff st zs).1 e).2
    have := (List.getElem?_inj (show k < zs.length from (List.getElem?_eq_some_iff.1 hy).1) hn).1 (hy.trans hz.symm)
    omega)]
theorem keep9_used {st : List Nat} {zs : List Int} (ha : Ap9 st.length zs) {i k : Nat} (hz : zs[i]? = some (k : Int)) (h : st.getD k 0 ≠ 0) : keep9 st zs = (st, 8) := by
  have hm := List.mem_of_getElem? hz
  have hk := ha.1 _ hm
  unfold keep9
  rw [if_pos ((apart9_iff st zs).2 ha), if_pos]
  rw [List.any_eq_true]
  exact ⟨_, hm, by rw [has7_at st k (by omega)]; simpa using h⟩
theorem keep9_free {st : List Nat} {zs : List Int} (ha : Ap9 st.length zs) (h : ∀ z ∈ zs, st.getD z.toNat 0 = 0) : keep9 st zs = (tr9 1 st zs, 0) := by
  unfold keep9
  rw [if_pos ((apart9_iff st zs).2 ha), if_neg]
  rw [List.any_eq_true]
  rintro ⟨z, hz, e⟩
  have hk := ha.1 _ hz
  obtain ⟨k, rfl⟩ : ∃ k : Nat, z = k := ⟨z.toNat, by omega⟩
  have := h _ hz
  rw [Int.toNat_natCast] at this
  rw [has7_at st k (by omega), this] at e
  exact absurd e (by decide)
end Go.Proofs.YtmedljnbcpdoeaaDoor
/- Layer 9: the document's pager: Keep. -/
namespace Go.Proofs.YtmedljnbcpdoeaaDoor
open Go.RowKit
set_option linter.unusedVariables false
set_option linter.unusedSimpArgs false
set_option maxRecDepth 100000

set_option maxHeartbeats 4000000 in
theorem keep_d {S : Nat → Prop} {w : World} {v : Value} {st : List Nat} (hS : ∀ k, S k → k < w.heap.size) (h : Rd9 S w v (il9 st)) (hl : st.length ≤ 16384) (fr : Int) (b o : Nat) (m c : Nat) (zs : List Int) (hm : zs.length = m) (hm2 : m ≤ 1000000) (hcl : ∀ j z, zs[j]? = some z → b < w.heap.size ∧ w.cell? ⟨b, o + j, none⟩ = some (.int .i64 z)) :
    Calls Tryd.prog 18 #[.agg #[.int .i64 fr, v], .slice (some ⟨b, o, none⟩) m c] w fun r w' => ∃ v', r = .returned (.tuple #[.agg #[.int .i64 fr, v'], .int .i64 (keep9 st zs).2]) ∧ Rd9 S w' v' (il9 (keep9 st zs).1) ∧ Turn (fun _ => False) w w' := by
  obtain ⟨A, cP, rfl, hir, _⟩ := h.ir
  rw [len_il9] at h ⊢
  obtain ⟨n, hn⟩ : ∃ n, st.length = n := ⟨_, rfl⟩
  have HN := Lib.hid hn
  rw [hn] at h hl ⊢
  obtain ⟨W1, W2, hW1, hW2, h12, BP, BC, T2, R2, HSK⟩ := boxes9 hS h fr
  have HS := Lib.hid hS
  have HI := Lib.hid hir
  have HM := Lib.hid hm
  have HBL : Hid (∀ j z, zs[j]? = some z → b < w.heap.size) := Lib.hid (fun j z hz => (hcl j z hz).1)
  have HCL : Hid (∀ W, Turn (fun _ => False) W2 W → ∀ j z, zs[j]? = some z → W.cell? ⟨b, o + j, none⟩ = some (.int .i64 z)) := Lib.hid (fun W hW j z hz => by
    obtain ⟨h1, h2⟩ := hcl j z hz
    exact (World.cell?_of_block (w := w) (a := ⟨b, o + j, none⟩) ((T2.out.trans hW).block b h1 (fun h => h))).trans h2)
  have HTW : Hid (∀ (z : Int) (W : World), Calls Tryd.prog 35 #[.agg #[.int .i64 fr, .slice A n cP], .int .i64 z] W fun r w' => ∃ v, r = .returned v ∧ (v = .bool (decide (0 ≤ z) && decide (z < n)) ∧ Turn (fun _ => False) W w')) := Lib.hid (fun z W => (there_d fr A n cP z W).mono fun e w' ⟨h1, h2⟩ => ⟨_, h1, rfl, h2⟩)
  have FIN : Hid (∀ (X : World), Turn (fun _ => False) W2 X → (X.cell? ⟨W1.heap.size, 0, none⟩ = some (.int .i64 0) ∧ X.cell? ⟨W1.heap.size, 1, none⟩ = some (.slice none 0 0) ∧ X.frozen? ⟨W1.heap.size, 0, none⟩ = false ∧ X.frozen? ⟨W1.heap.size, 1, none⟩ = false) ∧ Hid (((X.setCell ⟨W1.heap.size, 0, none⟩ (.int .i64 fr)).setCell ⟨W1.heap.size, 1, none⟩ (.slice A n cP)).cell? ⟨W1.heap.size, 0, none⟩ = some (.int .i64 fr) ∧ ((X.setCell ⟨W1.heap.size, 0, none⟩ (.int .i64 fr)).setCell ⟨W1.heap.size, 1, none⟩ (.slice A n cP)).cell? ⟨W1.heap.size, 1, none⟩ = some (.slice A n cP) ∧ Rd9 S ((X.setCell ⟨W1.heap.size, 0, none⟩ (.int .i64 fr)).setCell ⟨W1.heap.size, 1, none⟩ (.slice A n cP)) (.slice A n cP) (il9 st) ∧ Turn (fun _ => False) w ((X.setCell ⟨W1.heap.size, 0, none⟩ (.int .i64 fr)).setCell ⟨W1.heap.size, 1, none⟩ (.slice A n cP)))) := Lib.hid (fun X hX => by
    have hb := BC.out.turn hX (fun h => h)
    obtain ⟨CZ, TS, r0, r1⟩ := box2 hb (.int .i64 fr) (.slice A n cP)
    have hr := R2.out.still hX
    exact ⟨cells2 hb, Lib.hid ⟨r0, r1, ⟨own_far9 hr.own TS (fun k hk e => hr.far k hk (.inr (.inr e))), fun b hb hs => hr.far b hb (.inl hs)⟩, (T2.out.trans hX).trans_new TS (fun k hk e => by omega)⟩⟩)
  have BPW : Hid (∀ W, Turn (fun _ => False) W2 W → W.cell? ⟨w.heap.size, 0, none⟩ = some (.int .i64 fr) ∧ W.cell? ⟨w.heap.size, 1, none⟩ = some (.slice A n cP)) := Lib.hid (fun W hW => by obtain ⟨x0, x1, _, _⟩ := cells2 (BP.out.turn hW (fun h => h)); exact ⟨x0, x1⟩)
  obtain ⟨R, hR⟩ : ∃ R, keep9 st zs = R := ⟨_, rfl⟩
  have HR := Lib.hid hR
  rw [hR]
  clear hR h hS hn hm hcl hir
  go_enter Tryd.func18, Tryd.ntmps18
  go_wp2_with fail
  clear hW1 hW2
  go_loopw [6, 7] (fun v6 v7 wr => ∃ i : Nat, i ≤ m ∧ v6 = .int .i64 i ∧ Hid (Ap9 n (zs.take i)) ∧ Hid (Turn (fun _ => False) W2 wr)) (fun v6 _ _ => m - (intOf v6).toNat)
  case atStart => exact ⟨0, by omega, rfl, Lib.hid ⟨fun z hz => by simp at hz, by simp⟩, Lib.hid (Turn.refl _ _)⟩
  case round =>
    obtain ⟨i, hi, rfl, HAP, HT⟩ := hrel
    obtain ⟨wx, rfl⟩ : ∃ W, W = wr := ⟨_, rfl⟩
    by_cases hlt : i < m
    · have hl1 : (i : Int) < (m : Int) := by omega
      have hl0 : (0 : Int) ≤ (i : Int) := by omega
      have hq := wrap_of ((i : Int) + 1) (by omega) (by omega)
      obtain ⟨z, hz⟩ : ∃ z, zs[i]? = some z := ⟨_, List.getElem?_eq_getElem (by rw [HM.out]; exact hlt)⟩
      have HZ := Lib.hid hz
      clear hz
      by_cases hin : 0 ≤ z ∧ z < n
      · have hbv : (decide (0 ≤ z) && decide (z < (n : Int))) = true := by simp; omega
        have hzn0 := hin.1
        have hzn1 := hin.2
        have HIN := Lib.hid hin
        clear hin
        go_wp2_with fail
        -- R 4a
        refine wp_region_noPanic ?_
        refine wp_region_held_drew (S := fun X => Turn (fun _ => False) wx X) (by kernel_rfl) ((Turn.refl (fun _ => False) wx).drew) (fun hHeld => ?_)
        refine wpAnyH_named9 (fun X0 hX0 => ?_)
        have T0 : Hid (Turn (fun _ => False) wx X0) := Lib.hid (by rw [hX0]; exact (Turn.refl (fun _ => False) wx).drew)
        have hH0 := T0.out
        clear hHeld hX0
        refine wpAnyH_take (i := 0) (v := ?_) rfl (by kernel_rfl) (by kernel_rfl) (by kernel_rfl) (fun _ _ _ h => h) (Or.inl ⟨by rfl, ?_⟩) (by assumption) ?_
        rotate_left 1
        · intro w' hSw
          obtain ⟨x0, x1⟩ := BPW.out _ (HT.out.trans hSw)
          go_simp
          all_goals first | with_reducible rfl | (rw [if_neg (by omega)]; done) | (rw [if_pos (by omega)]; done) | (rw [if_neg (by omega)]; with_reducible rfl) | (rw [if_pos (by omega)]; with_reducible rfl)
        try simp only [List.getElem_toArray, List.getElem_cons_zero, List.getElem_cons_succ, Act.put, List.setIfInBounds_toArray, List.set_cons_zero, List.set_cons_succ]
        refine wpAnyH_take (i := 1) (v := ?_) rfl (by kernel_rfl) (by kernel_rfl) (by kernel_rfl) (fun _ _ _ h => h) (Or.inl ⟨by rfl, ?_⟩) (by assumption) ?_
        rotate_left 1
        · intro w' hSw
          go_simp
          all_goals first | with_reducible rfl | (rw [if_neg (by omega)]; done) | (rw [if_pos (by omega)]; done) | (rw [if_neg (by omega)]; with_reducible rfl) | (rw [if_pos (by omega)]; with_reducible rfl)
        try simp only [List.getElem_toArray, List.getElem_cons_zero, List.getElem_cons_succ, Act.put, List.setIfInBounds_toArray, List.set_cons_zero, List.set_cons_succ]
        refine wpAnyH_take (i := 2) (v := ?_) rfl (by kernel_rfl) (by kernel_rfl) (by kernel_rfl) (fun _ _ _ h => h) (Or.inl ⟨by rfl, ?_⟩) (by assumption) ?_
        rotate_left 1
        · intro w' hSw
          go_simp
          all_goals first | with_reducible rfl | (rw [if_neg (by omega)]; done) | (rw [if_pos (by omega)]; done) | (rw [if_neg (by omega)]; with_reducible rfl) | (rw [if_pos (by omega)]; with_reducible rfl)
        try simp only [List.getElem_toArray, List.getElem_cons_zero, List.getElem_cons_succ, Act.put, List.setIfInBounds_toArray, List.set_cons_zero, List.set_cons_succ]
        refine wpAnyH_take (i := 3) (v := ?_) rfl (by kernel_rfl) (by kernel_rfl) (by kernel_rfl) (fun _ _ _ h => h) (Or.inl ⟨by rfl, ?_⟩) (by assumption) ?_
        rotate_left 1
        · intro w' hSw
          go_simp
          all_goals first | with_reducible rfl | (rw [if_neg (by omega)]; done) | (rw [if_pos (by omega)]; done) | (rw [if_neg (by omega)]; with_reducible rfl) | (rw [if_pos (by omega)]; with_reducible rfl)
        try simp only [List.getElem_toArray, List.getElem_cons_zero, List.getElem_cons_succ, Act.put, List.setIfInBounds_toArray, List.set_cons_zero, List.set_cons_succ]
        refine wpAnyH_take (i := 4) (v := ?_) rfl (by kernel_rfl) (by kernel_rfl) (by kernel_rfl) (fun _ _ _ h => h) (Or.inl ⟨by rfl, ?_⟩) (by assumption) ?_
        rotate_left 1
        · intro w' hSw
          have y0 := HCL.out _ (HT.out.trans hSw) i z HZ.out
          go_simp
          all_goals first | with_reducible rfl | (rw [if_neg (by omega)]; done) | (rw [if_pos (by omega)]; done) | (rw [if_neg (by omega)]; with_reducible rfl) | (rw [if_pos (by omega)]; with_reducible rfl)
        try simp only [List.getElem_toArray, List.getElem_cons_zero, List.getElem_cons_succ, Act.put, List.setIfInBounds_toArray, List.set_cons_zero, List.set_cons_succ]
        refine wpAnyH_ready (rs := [5]) (by kernel_rfl) (by simp) ?_
        refine AllReadyH.cons rfl (fun K hK => ?_) AllReadyH.nil
        refine step_call rfl 35 Tryd.f35 _ _ rfl Tryd.func35 (by kernel_rfl) (by kernel_rfl) _ _ (HTW.out z X0) (by go_simp) ?_
        rintro v3 w3 ⟨rfl, ht3⟩
        have T3 := Lib.hid (T0.out.trans ht3)
        clear ht3
        refine hK.out _ _ T3.out (fun hHeld => ?_)
        clear hK K hHeld
        try simp only [List.getElem_toArray, List.getElem_cons_zero, List.getElem_cons_succ, Act.put, List.setIfInBounds_toArray, List.set_cons_zero, List.set_cons_succ]
        refine wpAnyH_take (i := 6) (v := ?_) rfl (by kernel_rfl) (by kernel_rfl) (by kernel_rfl) (fun _ _ _ h => h) (Or.inl ⟨by rfl, ?_⟩) (by assumption) ?_
        rotate_left 1
        · intro w' hSw
          go_simp
          all_goals first | with_reducible rfl | (rw [if_neg (by omega)]; done) | (rw [if_pos (by omega)]; done) | (rw [if_neg (by omega)]; with_reducible rfl) | (rw [if_pos (by omega)]; with_reducible rfl)
        try simp only [List.getElem_toArray, List.getElem_cons_zero, List.getElem_cons_succ, Act.put, List.setIfInBounds_toArray, List.set_cons_zero, List.set_cons_succ]
        refine wpAnyH_done (by kernel_rfl) ?_ _
        refine NoPanic.normal ?_
        -- R 4a end
        go_wp2_with fail
        go_loopw [7] (fun v7 wy => ∃ k : Nat, k ≤ i ∧ v7 = .int .i64 k ∧ Hid (∀ j, j < k → zs[j]? ≠ some z) ∧ Hid (Turn (fun _ => False) W2 wy)) (fun v7 _ => i - (intOf v7).toNat)
        case atStart => exact ⟨0, by omega, rfl, Lib.hid (fun j hj => by omega), Lib.hid (HT.out.trans T3.out)⟩
        case round =>
          obtain ⟨k, hk, rfl, HNE, HK⟩ := hrel
          obtain ⟨wz, rfl⟩ : ∃ W, W = wr := ⟨_, rfl⟩
          by_cases hki : k < i
          · have hk1 : (k : Int) < (i : Int) := by omega
            have hk0 : (0 : Int) ≤ (k : Int) := by omega
            have hkm : (k : Int) < (m : Int) := by omega
            have hqk := wrap_of ((k : Int) + 1) (by omega) (by omega)
            obtain ⟨y, hy⟩ : ∃ y, zs[k]? = some y := ⟨_, List.getElem?_eq_getElem (by rw [HM.out]; omega)⟩
            have HY := Lib.hid hy
            clear hy
            by_cases hyz : y = z
            · have hRR : R = (st, 2) := HR.out.symm.trans (keep9_twice hki HZ.out (by rw [HY.out, hyz]))
              subst hRR
              have e1 : (y == z) = true := by simpa using hyz
              clear hyz
              go_wp2_with fail
              -- R 9a
              refine wp_region_noPanic ?_
              refine wp_region_held_drew (S := fun X => Turn (fun _ => False) wz X) (by kernel_rfl) ((Turn.refl (fun _ => False) wz).drew) (fun hHeld => ?_)
              refine wpAnyH_named9 (fun X0 hX0 => ?_)
              have T0 : Hid (Turn (fun _ => False) wz X0) := Lib.hid (by rw [hX0]; exact (Turn.refl (fun _ => False) wz).drew)
              have hH0 := T0.out
              clear hHeld hX0
              refine wpAnyH_take (i := 0) (v := ?_) rfl (by kernel_rfl) (by kernel_rfl) (by kernel_rfl) (fun _ _ _ h => h) (Or.inl ⟨by rfl, ?_⟩) (by assumption) ?_
              rotate_left 1
              · intro w' hSw
                go_simp
                all_goals first | with_reducible rfl | (rw [if_neg (by omega)]; done) | (rw [if_pos (by omega)]; done) | (rw [if_neg (by omega)]; with_reducible rfl) | (rw [if_pos (by omega)]; with_reducible rfl)
              try simp only [List.getElem_toArray, List.getElem_cons_zero, List.getElem_cons_succ, Act.put, List.setIfInBounds_toArray, List.set_cons_zero, List.set_cons_succ]
              refine wpAnyH_take (i := 1) (v := ?_) rfl (by kernel_rfl) (by kernel_rfl) (by kernel_rfl) (fun _ _ _ h => h) (Or.inl ⟨by rfl, ?_⟩) (by assumption) ?_
              rotate_left 1
              · intro w' hSw
                go_simp
                all_goals first | with_reducible rfl | (rw [if_neg (by omega)]; done) | (rw [if_pos (by omega)]; done) | (rw [if_neg (by omega)]; with_reducible rfl) | (rw [if_pos (by omega)]; with_reducible rfl)
              try simp only [List.getElem_toArray, List.getElem_cons_zero, List.getElem_cons_succ, Act.put, List.setIfInBounds_toArray, List.set_cons_zero, List.set_cons_succ]
              refine wpAnyH_take (i := 2) (v := ?_) rfl (by kernel_rfl) (by kernel_rfl) (by kernel_rfl) (fun _ _ _ h => h) (Or.inl ⟨by rfl, ?_⟩) (by assumption) ?_
              rotate_left 1
              · intro w' hSw
                go_simp
                all_goals first | with_reducible rfl | (rw [if_neg (by omega)]; done) | (rw [if_pos (by omega)]; done) | (rw [if_neg (by omega)]; with_reducible rfl) | (rw [if_pos (by omega)]; with_reducible rfl)
              try simp only [List.getElem_toArray, List.getElem_cons_zero, List.getElem_cons_succ, Act.put, List.setIfInBounds_toArray, List.set_cons_zero, List.set_cons_succ]
              refine wpAnyH_take (i := 3) (v := ?_) rfl (by kernel_rfl) (by kernel_rfl) (by kernel_rfl) (fun _ _ _ h => h) (Or.inl ⟨by rfl, ?_⟩) (by assumption) ?_
              rotate_left 1
              · intro w' hSw
                have y0 := HCL.out _ (HK.out.trans hSw) k y HY.out
                go_simp
                all_goals first | with_reducible rfl | (rw [if_neg (by omega)]; done) | (rw [if_pos (by omega)]; done) | (rw [if_neg (by omega)]; with_reducible rfl) | (rw [if_pos (by omega)]; with_reducible rfl)
              try simp only [List.getElem_toArray, List.getElem_cons_zero, List.getElem_cons_succ, Act.put, List.setIfInBounds_toArray, List.set_cons_zero, List.set_cons_succ]
              refine wpAnyH_take (i := 4) (v := ?_) rfl (by kernel_rfl) (by kernel_rfl) (by kernel_rfl) (fun _ _ _ h => h) (Or.inl ⟨by rfl, ?_⟩) (by assumption) ?_
              rotate_left 1
              · intro w' hSw
                go_simp
                all_goals first | with_reducible rfl | (rw [if_neg (by omega)]; done) | (rw [if_pos (by omega)]; done) | (rw [if_neg (by omega)]; with_reducible rfl) | (rw [if_pos (by omega)]; with_reducible rfl)
              try simp only [List.getElem_toArray, List.getElem_cons_zero, List.getElem_cons_succ, Act.put, List.setIfInBounds_toArray, List.set_cons_zero, List.set_cons_succ]
              refine wpAnyH_take (i := 5) (v := ?_) rfl (by kernel_rfl) (by kernel_rfl) (by kernel_rfl) (fun _ _ _ h => h) (Or.inl ⟨by rfl, ?_⟩) (by assumption) ?_
              rotate_left 1
              · intro w' hSw
                go_simp
                all_goals first | with_reducible rfl | (rw [if_neg (by omega)]; done) | (rw [if_pos (by omega)]; done) | (rw [if_neg (by omega)]; with_reducible rfl) | (rw [if_pos (by omega)]; with_reducible rfl)
              try simp only [List.getElem_toArray, List.getElem_cons_zero, List.getElem_cons_succ, Act.put, List.setIfInBounds_toArray, List.set_cons_zero, List.set_cons_succ]
              refine wpAnyH_take (i := 6) (v := ?_) rfl (by kernel_rfl) (by kernel_rfl) (by kernel_rfl) (fun _ _ _ h => h) (Or.inl ⟨by rfl, ?_⟩) (by assumption) ?_
              rotate_left 1
              · intro w' hSw
                go_simp
                all_goals first | with_reducible rfl | (rw [if_neg (by omega)]; done) | (rw [if_pos (by omega)]; done) | (rw [if_neg (by omega)]; with_reducible rfl) | (rw [if_pos (by omega)]; with_reducible rfl)
              try simp only [List.getElem_toArray, List.getElem_cons_zero, List.getElem_cons_succ, Act.put, List.setIfInBounds_toArray, List.set_cons_zero, List.set_cons_succ]
              refine wpAnyH_take (i := 7) (v := ?_) rfl (by kernel_rfl) (by kernel_rfl) (by kernel_rfl) (fun _ _ _ h => h) (Or.inl ⟨by rfl, ?_⟩) (by assumption) ?_
              rotate_left 1
              · intro w' hSw
                have y0 := HCL.out _ (HK.out.trans hSw) i z HZ.out
                go_simp
                all_goals first | with_reducible rfl | (rw [if_neg (by omega)]; done) | (rw [if_pos (by omega)]; done) | (rw [if_neg (by omega)]; with_reducible rfl) | (rw [if_pos (by omega)]; with_reducible rfl)
              try simp only [List.getElem_toArray, List.getElem_cons_zero, List.getElem_cons_succ, Act.put, List.setIfInBounds_toArray, List.set_cons_zero, List.set_cons_succ]
              refine wpAnyH_take (i := 8) (v := ?_) rfl (by kernel_rfl) (by kernel_rfl) (by kernel_rfl) (fun _ _ _ h => h) (Or.inl ⟨by rfl, ?_⟩) (by assumption) ?_
              rotate_left 1
              · intro w' hSw
                go_simp
                all_goals first | with_reducible rfl | (rw [if_neg (by omega)]; done) | (rw [if_pos (by omega)]; done) | (rw [if_neg (by omega)]; with_reducible rfl) | (rw [if_pos (by omega)]; with_reducible rfl)
              try simp only [List.getElem_toArray, List.getElem_cons_zero, List.getElem_cons_succ, Act.put, List.setIfInBounds_toArray, List.set_cons_zero, List.set_cons_succ]
              refine wpAnyH_done (by kernel_rfl) ?_ _
              refine NoPanic.normal ?_
              -- R 9a end
              obtain ⟨x0, x1⟩ := BPW.out X0 (HK.out.trans T0.out)
              obtain ⟨⟨z0, z1, g0, g1⟩, HF⟩ := FIN.out X0 (HK.out.trans T0.out)
              go_wp2_with fail
              obtain ⟨r0, r1, hr9, ht9⟩ := HF.out
              exact bodyPost_ret (v := .tuple #[.agg #[.int .i64 fr, .slice A n cP], .int .i64 2]) (by simp [results, Tryd.results18, go_sem, r0, r1]) rfl ⟨_, rfl, hr9, ht9⟩
            · have e1 : (y == z) = false := beq_eq_false_iff_ne.2 hyz
              have HNE2 : Hid (∀ j, j < k + 1 → zs[j]? ≠ some z) := Lib.hid (fun j hj e => by
                rcases Nat.lt_or_ge j k with h | h
                · exact HNE.out j h e
                · have : j = k := by omega
                  rw [this, HY.out] at e; injection e with e; exact hyz e)
              go_wp2_with fail
              -- R 9b
              refine wp_region_noPanic ?_
              refine wp_region_held_drew (S := fun X => Turn (fun _ => False) wz X) (by kernel_rfl) ((Turn.refl (fun _ => False) wz).drew) (fun hHeld => ?_)
              refine wpAnyH_named9 (fun X0 hX0 => ?_)
              have T0 : Hid (Turn (fun _ => False) wz X0) := Lib.hid (by rw [hX0]; exact (Turn.refl (fun _ => False) wz).drew)
              have hH0 := T0.out
              clear hHeld hX0
              refine wpAnyH_take (i := 0) (v := ?_) rfl (by kernel_rfl) (by kernel_rfl) (by kernel_rfl) (fun _ _ _ h => h) (Or.inl ⟨by rfl, ?_⟩) (by assumption) ?_
              rotate_left 1
              · intro w' hSw
                go_simp
                all_goals first | with_reducible rfl | (rw [if_neg (by omega)]; done) | (rw [if_pos (by omega)]; done) | (rw [if_neg (by omega)]; with_reducible rfl) | (rw [if_pos (by omega)]; with_reducible rfl)
              try simp only [List.getElem_toArray, List.getElem_cons_zero, List.getElem_cons_succ, Act.put, List.setIfInBounds_toArray, List.set_cons_zero, List.set_cons_succ]
              refine wpAnyH_take (i := 1) (v := ?_) rfl (by kernel_rfl) (by kernel_rfl) (by kernel_rfl) (fun _ _ _ h => h) (Or.inl ⟨by rfl, ?_⟩) (by assumption) ?_
              rotate_left 1
              · intro w' hSw
                go_simp
                all_goals first | with_reducible rfl | (rw [if_neg (by omega)]; done) | (rw [if_pos (by omega)]; done) | (rw [if_neg (by omega)]; with_reducible rfl) | (rw [if_pos (by omega)]; with_reducible rfl)
              try simp only [List.getElem_toArray, List.getElem_cons_zero, List.getElem_cons_succ, Act.put, List.setIfInBounds_toArray, List.set_cons_zero, List.set_cons_succ]
              refine wpAnyH_take (i := 2) (v := ?_) rfl (by kernel_rfl) (by kernel_rfl) (by kernel_rfl) (fun _ _ _ h => h) (Or.inl ⟨by rfl, ?_⟩) (by assumption) ?_
              rotate_left 1
              · intro w' hSw
                go_simp
                all_goals first | with_reducible rfl | (rw [if_neg (by omega)]; done) | (rw [if_pos (by omega)]; done) | (rw [if_neg (by omega)]; with_reducible rfl) | (rw [if_pos (by omega)]; with_reducible rfl)
              try simp only [List.getElem_toArray, List.getElem_cons_zero, List.getElem_cons_succ, Act.put, List.setIfInBounds_toArray, List.set_cons_zero, List.set_cons_succ]
              refine wpAnyH_take (i := 3) (v := ?_) rfl (by kernel_rfl) (by kernel_rfl) (by kernel_rfl) (fun _ _ _ h => h) (Or.inl ⟨by rfl, ?_⟩) (by assumption) ?_
              rotate_left 1
              · intro w' hSw
                have y0 := HCL.out _ (HK.out.trans hSw) k y HY.out
                go_simp
                all_goals first | with_reducible rfl | (rw [if_neg (by omega)]; done) | (rw [if_pos (by omega)]; done) | (rw [if_neg (by omega)]; with_reducible rfl) | (rw [if_pos (by omega)]; with_reducible rfl)
              try simp only [List.getElem_toArray, List.getElem_cons_zero, List.getElem_cons_succ, Act.put, List.setIfInBounds_toArray, List.set_cons_zero, List.set_cons_succ]
              refine wpAnyH_take (i := 4) (v := ?_) rfl (by kernel_rfl) (by kernel_rfl) (by kernel_rfl) (fun _ _ _ h => h) (Or.inl ⟨by rfl, ?_⟩) (by assumption) ?_
              rotate_left 1
              · intro w' hSw
                go_simp
                all_goals first | with_reducible rfl | (rw [if_neg (by omega)]; done) | (rw [if_pos (by omega)]; done) | (rw [if_neg (by omega)]; with_reducible rfl) | (rw [if_pos (by omega)]; with_reducible rfl)
              try simp only [List.getElem_toArray, List.getElem_cons_zero, List.getElem_cons_succ, Act.put, List.setIfInBounds_toArray, List.set_cons_zero, List.set_cons_succ]
              refine wpAnyH_take (i := 5) (v := ?_) rfl (by kernel_rfl) (by kernel_rfl) (by kernel_rfl) (fun _ _ _ h => h) (Or.inl ⟨by rfl, ?_⟩) (by assumption) ?_
              rotate_left 1
              · intro w' hSw
                go_simp
                all_goals first | with_reducible rfl | (rw [if_neg (by omega)]; done) | (rw [if_pos (by omega)]; done) | (rw [if_neg (by omega)]; with_reducible rfl) | (rw [if_pos (by omega)]; with_reducible rfl)
              try simp only [List.getElem_toArray, List.getElem_cons_zero, List.getElem_cons_succ, Act.put, List.setIfInBounds_toArray, List.set_cons_zero, List.set_cons_succ]
              refine wpAnyH_take (i := 6) (v := ?_) rfl (by kernel_rfl) (by kernel_rfl) (by kernel_rfl) (fun _ _ _ h => h) (Or.inl ⟨by rfl, ?_⟩) (by assumption) ?_
              rotate_left 1
              · intro w' hSw
                go_simp
                all_goals first | with_reducible rfl | (rw [if_neg (by omega)]; done) | (rw [if_pos (by omega)]; done) | (rw [if_neg (by omega)]; with_reducible rfl) | (rw [if_pos (by omega)]; with_reducible rfl)
              try simp only [List.getElem_toArray, List.getElem_cons_zero, List.getElem_cons_succ, Act.put, List.setIfInBounds_toArray, List.set_cons_zero, List.set_cons_succ]
              refine wpAnyH_take (i := 7) (v := ?_) rfl (by kernel_rfl) (by kernel_rfl) (by kernel_rfl) (fun _ _ _ h => h) (Or.inl ⟨by rfl, ?_⟩) (by assumption) ?_
              rotate_left 1
              · intro w' hSw
                have y0 := HCL.out _ (HK.out.trans hSw) i z HZ.out
                go_simp
                all_goals first | with_reducible rfl | (rw [if_neg (by omega)]; done) | (rw [if_pos (by omega)]; done) | (rw [if_neg (by omega)]; with_reducible rfl) | (rw [if_pos (by omega)]; with_reducible rfl)
              try simp only [List.getElem_toArray, List.getElem_cons_zero, List.getElem_cons_succ, Act.put, List.setIfInBounds_toArray, List.set_cons_zero, List.set_cons_succ]
              refine wpAnyH_take (i := 8) (v := ?_) rfl (by kernel_rfl) (by kernel_rfl) (by kernel_rfl) (fun _ _ _ h => h) (Or.inl ⟨by rfl, ?_⟩) (by assumption) ?_
              rotate_left 1
              · intro w' hSw
                go_simp
                all_goals first | with_reducible rfl | (rw [if_neg (by omega)]; done) | (rw [if_pos (by omega)]; done) | (rw [if_neg (by omega)]; with_reducible rfl) | (rw [if_pos (by omega)]; with_reducible rfl)
              try simp only [List.getElem_toArray, List.getElem_cons_zero, List.getElem_cons_succ, Act.put, List.setIfInBounds_toArray, List.set_cons_zero, List.set_cons_succ]
              refine wpAnyH_done (by kernel_rfl) ?_ _
              refine NoPanic.normal ?_
              -- R 9b end
              go_wp2_with fail
              go_roundw
              case rel => exact ⟨k + 1, by omega, by simp [hqk], HNE2, Lib.hid (HK.out.trans T0.out)⟩
              case measure => simp [intOf, hqk]; omega
          · obtain rfl : k = i := by omega
            have HAP2 : Hid (Ap9 n (zs.take (k + 1))) := Lib.hid (by
              rw [List.take_add_one, HZ.out]
              refine HAP.out.snoc hzn0 hzn1 (fun hmem => ?_)
              obtain ⟨j, hj⟩ := List.getElem?_of_mem hmem
              rw [List.getElem?_take] at hj
              split at hj
              · rename_i h; exact HNE.out j h hj
              · cases hj)
            go_wp2_with fail
            go_roundw
            case rel => exact ⟨k + 1, by omega, by simp [hq], HAP2, HK⟩
            case measure => simp [intOf, hq]; omega
      · have hbv : (decide (0 ≤ z) && decide (z < (n : Int))) = false := by simp; omega
        have hRR : R = (st, 2) := HR.out.symm.trans (keep9_out HZ.out (by rw [HN.out]; exact hin))
        subst hRR
        clear hin
        go_wp2_with fail
        -- R 4b
        refine wp_region_noPanic ?_
        refine wp_region_held_drew (S := fun X => Turn (fun _ => False) wx X) (by kernel_rfl) ((Turn.refl (fun _ => False) wx).drew) (fun hHeld => ?_)
        refine wpAnyH_named9 (fun X0 hX0 => ?_)
        have T0 : Hid (Turn (fun _ => False) wx X0) := Lib.hid (by rw [hX0]; exact (Turn.refl (fun _ => False) wx).drew)
        have hH0 := T0.out
        clear hHeld hX0
        refine wpAnyH_take (i := 0) (v := ?_) rfl (by kernel_rfl) (by kernel_rfl) (by kernel_rfl) (fun _ _ _ h => h) (Or.inl ⟨by rfl, ?_⟩) (by assumption) ?_
        rotate_left 1
        · intro w' hSw
          obtain ⟨x0, x1⟩ := BPW.out _ (HT.out.trans hSw)
          go_simp
          all_goals first | with_reducible rfl | (rw [if_neg (by omega)]; done) | (rw [if_pos (by omega)]; done) | (rw [if_neg (by omega)]; with_reducible rfl) | (rw [if_pos (by omega)]; with_reducible rfl)
        try simp only [List.getElem_toArray, List.getElem_cons_zero, List.getElem_cons_succ, Act.put, List.setIfInBounds_toArray, List.set_cons_zero, List.set_cons_succ]
        refine wpAnyH_take (i := 1) (v := ?_) rfl (by kernel_rfl) (by kernel_rfl) (by kernel_rfl) (fun _ _ _ h => h) (Or.inl ⟨by rfl, ?_⟩) (by assumption) ?_
        rotate_left 1
        · intro w' hSw
          go_simp
          all_goals first | with_reducible rfl | (rw [if_neg (by omega)]; done) | (rw [if_pos (by omega)]; done) | (rw [if_neg (by omega)]; with_reducible rfl) | (rw [if_pos (by omega)]; with_reducible rfl)
        try simp only [List.getElem_toArray, List.getElem_cons_zero, List.getElem_cons_succ, Act.put, List.setIfInBounds_toArray, List.set_cons_zero, List.set_cons_succ]
        refine wpAnyH_take (i := 2) (v := ?_) rfl (by kernel_rfl) (by kernel_rfl) (by kernel_rfl) (fun _ _ _ h => h) (Or.inl ⟨by rfl, ?_⟩) (by assumption) ?_
        rotate_left 1
        · intro w' hSw
          go_simp
          all_goals first | with_reducible rfl | (rw [if_neg (by omega)]; done) | (rw [if_pos (by omega)]; done) | (rw [if_neg (by omega)]; with_reducible rfl) | (rw [if_pos (by omega)]; with_reducible rfl)
        try simp only [List.getElem_toArray, List.getElem_cons_zero, List.getElem_cons_succ, Act.put, List.setIfInBounds_toArray, List.set_cons_zero, List.set_cons_succ]
        refine wpAnyH_take (i := 3) (v := ?_) rfl (by kernel_rfl) (by kernel_rfl) (by kernel_rfl) (fun _ _ _ h => h) (Or.inl ⟨by rfl, ?_⟩) (by assumption) ?_
        rotate_left 1
        · intro w' hSw
          go_simp
          all_goals first | with_reducible rfl | (rw [if_neg (by omega)]; done) | (rw [if_pos (by omega)]; done) | (rw [if_neg (by omega)]; with_reducible rfl) | (rw [if_pos (by omega)]; with_reducible rfl)
        try simp only [List.getElem_toArray, List.getElem_cons_zero, List.getElem_cons_succ, Act.put, List.setIfInBounds_toArray, List.set_cons_zero, List.set_cons_succ]
        refine wpAnyH_take (i := 4) (v := ?_) rfl (by kernel_rfl) (by kernel_rfl) (by kernel_rfl) (fun _ _ _ h => h) (Or.inl ⟨by rfl, ?_⟩) (by assumption) ?_
        rotate_left 1
        · intro w' hSw
          have y0 := HCL.out _ (HT.out.trans hSw) i z HZ.out
          go_simp
          all_goals first | with_reducible rfl | (rw [if_neg (by omega)]; done) | (rw [if_pos (by omega)]; done) | (rw [if_neg (by omega)]; with_reducible rfl) | (rw [if_pos (by omega)]; with_reducible rfl)
        try simp only [List.getElem_toArray, List.getElem_cons_zero, List.getElem_cons_succ, Act.put, List.setIfInBounds_toArray, List.set_cons_zero, List.set_cons_succ]
        refine wpAnyH_ready (rs := [5]) (by kernel_rfl) (by simp) ?_
        refine AllReadyH.cons rfl (fun K hK => ?_) AllReadyH.nil
        refine step_call rfl 35 Tryd.f35 _ _ rfl Tryd.func35 (by kernel_rfl) (by kernel_rfl) _ _ (HTW.out z X0) (by go_simp) ?_
        rintro v3 w3 ⟨rfl, ht3⟩
        have T3 := Lib.hid (T0.out.trans ht3)
        clear ht3
        refine hK.out _ _ T3.out (fun hHeld => ?_)
        clear hK K hHeld
        try simp only [List.getElem_toArray, List.getElem_cons_zero, List.getElem_cons_succ, Act.put, List.setIfInBounds_toArray, List.set_cons_zero, List.set_cons_succ]
        refine wpAnyH_take (i := 6) (v := ?_) rfl (by kernel_rfl) (by kernel_rfl) (by kernel_rfl) (fun _ _ _ h => h) (Or.inl ⟨by rfl, ?_⟩) (by assumption) ?_
        rotate_left 1
        · intro w' hSw
          go_simp
          all_goals first | with_reducible rfl | (rw [if_neg (by omega)]; done) | (rw [if_pos (by omega)]; done) | (rw [if_neg (by omega)]; with_reducible rfl) | (rw [if_pos (by omega)]; with_reducible rfl)
        try simp only [List.getElem_toArray, List.getElem_cons_zero, List.getElem_cons_succ, Act.put, List.setIfInBounds_toArray, List.set_cons_zero, List.set_cons_succ]
        refine wpAnyH_done (by kernel_rfl) ?_ _
        refine NoPanic.normal ?_
        -- R 4b end
        obtain ⟨x0, x1⟩ := BPW.out w3 (HT.out.trans T3.out)
        obtain ⟨⟨z0, z1, g0, g1⟩, HF⟩ := FIN.out w3 (HT.out.trans T3.out)
        go_wp2_with fail
        obtain ⟨r0, r1, hr9, ht9⟩ := HF.out
        exact bodyPost_ret (v := .tuple #[.agg #[.int .i64 fr, .slice A n cP], .int .i64 2]) (by simp [results, Tryd.results18, go_sem, r0, r1]) rfl ⟨_, rfl, hr9, ht9⟩
    · obtain rfl : i = m := by omega
      have HAZ : Hid (Ap9 st.length zs) := Lib.hid (by have := HAP.out; rw [← HM.out, List.take_length, ← HN.out] at this; exact this)
      go_wp2_with fail
      go_loopw [8] (fun v8 wy => ∃ k : Nat, k ≤ i ∧ v8 = .int .i64 k ∧ Hid (∀ (j y : Nat), j < k → zs[j]? = some (y : Int) → st.getD y 0 = 0) ∧ Hid (Turn (fun _ => False) W2 wy)) (fun v8 _ => i - (intOf v8).toNat)
      case atStart => exact ⟨0, by omega, rfl, Lib.hid (fun j y hj => by omega), HT⟩
      case round =>
        obtain ⟨k, hk, rfl, HZR, HK⟩ := hrel
        obtain ⟨wz, rfl⟩ : ∃ W, W = wr := ⟨_, rfl⟩
        by_cases hki : k < i
        · have hk1 : (k : Int) < (i : Int) := by omega
          have hk0 : (0 : Int) ≤ (k : Int) := by omega
          have hqk := wrap_of ((k : Int) + 1) (by omega) (by omega)
          obtain ⟨z, hz⟩ : ∃ z, zs[k]? = some z := ⟨_, List.getElem?_eq_getElem (by rw [HM.out]; exact hki)⟩
          have hzr := HAZ.out.1 z (List.mem_of_getElem? hz)
          obtain ⟨y, rfl⟩ : ∃ y : Nat, z = y := ⟨z.toNat, by omega⟩
          have hyn : y < n := by have := HN.out; omega
          have hy1 : (y : Int) < (n : Int) := by omega
          have hy0 : (0 : Int) ≤ (y : Int) := by omega
          have HZ := Lib.hid hz
          obtain ⟨g, rfl, hgl, cg⟩ := HI.out y _ (il9_at st y (by rw [HN.out]; exact hyn))
          have HCG : Hid (∀ W, Turn (fun _ => False) W2 W → W.cell? ⟨g, y, none⟩ = some (.int .i64 ((st.getD y 0 : Nat) : Int))) := Lib.hid (fun W hW => (World.cell?_of_block (w := w) (a := ⟨g, y, none⟩) ((T2.out.trans hW).block g hgl (fun h => h))).trans cg)
          clear hz hzr cg hgl
          by_cases h0 : st.getD y 0 = 0
          · have HZR2 : Hid (∀ (j x : Nat), j < k + 1 → zs[j]? = some (x : Int) → st.getD x 0 = 0) := Lib.hid (fun j x hj e => by
              rcases Nat.lt_or_ge j k with h | h
              · exact HZR.out j x h e
              · have : j = k := by omega
                rw [this, HZ.out] at e
                injection e with e
                have : y = x := by omega
                rw [← this]; exact h0)
            rw [h0] at HCG
            clear h0
            go_wp2_with fail
            -- R 14a
            refine wp_region_noPanic ?_
            refine wp_region_held_drew (S := fun X => Turn (fun _ => False) wz X) (by kernel_rfl) ((Turn.refl (fun _ => False) wz).drew) (fun hHeld => ?_)
            refine wpAnyH_named9 (fun X0 hX0 => ?_)
            have T0 : Hid (Turn (fun _ => False) wz X0) := Lib.hid (by rw [hX0]; exact (Turn.refl (fun _ => False) wz).drew)
            have hH0 := T0.out
            clear hHeld hX0
            refine wpAnyH_take (i := 0) (v := ?_) rfl (by kernel_rfl) (by kernel_rfl) (by kernel_rfl) (fun _ _ _ h => h) (Or.inl ⟨by rfl, ?_⟩) (by assumption) ?_
            rotate_left 1
            · intro w' hSw
              go_simp
              all_goals first | with_reducible rfl | (rw [if_neg (by omega)]; done) | (rw [if_pos (by omega)]; done) | (rw [if_neg (by omega)]; with_reducible rfl) | (rw [if_pos (by omega)]; with_reducible rfl)
            try simp only [List.getElem_toArray, List.getElem_cons_zero, List.getElem_cons_succ, Act.put, List.setIfInBounds_toArray, List.set_cons_zero, List.set_cons_succ]
            refine wpAnyH_take (i := 1) (v := ?_) rfl (by kernel_rfl) (by kernel_rfl) (by kernel_rfl) (fun _ _ _ h => h) (Or.inl ⟨by rfl, ?_⟩) (by assumption) ?_
            rotate_left 1
            · intro w' hSw
              obtain ⟨x0, x1⟩ := BPW.out _ (HK.out.trans hSw)
              go_simp
              all_goals first | with_reducible rfl | (rw [if_neg (by omega)]; done) | (rw [if_pos (by omega)]; done) | (rw [if_neg (by omega)]; with_reducible rfl) | (rw [if_pos (by omega)]; with_reducible rfl)
            try simp only [List.getElem_toArray, List.getElem_cons_zero, List.getElem_cons_succ, Act.put, List.setIfInBounds_toArray, List.set_cons_zero, List.set_cons_succ]
            refine wpAnyH_take (i := 2) (v := ?_) rfl (by kernel_rfl) (by kernel_rfl) (by kernel_rfl) (fun _ _ _ h => h) (Or.inl ⟨by rfl, ?_⟩) (by assumption) ?_
            rotate_left 1
            · intro w' hSw
              go_simp
              all_goals first | with_reducible rfl | (rw [if_neg (by omega)]; done) | (rw [if_pos (by omega)]; done) | (rw [if_neg (by omega)]; with_reducible rfl) | (rw [if_pos (by omega)]; with_reducible rfl)
            try simp only [List.getElem_toArray, List.getElem_cons_zero, List.getElem_cons_succ, Act.put, List.setIfInBounds_toArray, List.set_cons_zero, List.set_cons_succ]
            refine wpAnyH_take (i := 3) (v := ?_) rfl (by kernel_rfl) (by kernel_rfl) (by kernel_rfl) (fun _ _ _ h => h) (Or.inl ⟨by rfl, ?_⟩) (by assumption) ?_
            rotate_left 1
            · intro w' hSw
              go_simp
              all_goals first | with_reducible rfl | (rw [if_neg (by omega)]; done) | (rw [if_pos (by omega)]; done) | (rw [if_neg (by omega)]; with_reducible rfl) | (rw [if_pos (by omega)]; with_reducible rfl)
            try simp only [List.getElem_toArray, List.getElem_cons_zero, List.getElem_cons_succ, Act.put, List.setIfInBounds_toArray, List.set_cons_zero, List.set_cons_succ]
            refine wpAnyH_take (i := 4) (v := ?_) rfl (by kernel_rfl) (by kernel_rfl) (by kernel_rfl) (fun _ _ _ h => h) (Or.inl ⟨by rfl, ?_⟩) (by assumption) ?_
            rotate_left 1
            · intro w' hSw
              go_simp
              all_goals first | with_reducible rfl | (rw [if_neg (by omega)]; done) | (rw [if_pos (by omega)]; done) | (rw [if_neg (by omega)]; with_reducible rfl) | (rw [if_pos (by omega)]; with_reducible rfl)
            try simp only [List.getElem_toArray, List.getElem_cons_zero, List.getElem_cons_succ, Act.put, List.setIfInBounds_toArray, List.set_cons_zero, List.set_cons_succ]
            refine wpAnyH_take (i := 5) (v := ?_) rfl (by kernel_rfl) (by kernel_rfl) (by kernel_rfl) (fun _ _ _ h => h) (Or.inl ⟨by rfl, ?_⟩) (by assumption) ?_
            rotate_left 1
            · intro w' hSw
              have y0 := HCL.out _ (HK.out.trans hSw) k _ HZ.out
              go_simp
              all_goals first | with_reducible rfl | (rw [if_neg (by omega)]; done) | (rw [if_pos (by omega)]; done) | (rw [if_neg (by omega)]; with_reducible rfl) | (rw [if_pos (by omega)]; with_reducible rfl)
            try simp only [List.getElem_toArray, List.getElem_cons_zero, List.getElem_cons_succ, Act.put, List.setIfInBounds_toArray, List.set_cons_zero, List.set_cons_succ]
            refine wpAnyH_take (i := 6) (v := ?_) rfl (by kernel_rfl) (by kernel_rfl) (by kernel_rfl) (fun _ _ _ h => h) (Or.inl ⟨by rfl, ?_⟩) (by assumption) ?_
            rotate_left 1
            · intro w' hSw
              go_simp
              all_goals first | with_reducible rfl | (rw [if_neg (by omega)]; done) | (rw [if_pos (by omega)]; done) | (rw [if_neg (by omega)]; with_reducible rfl) | (rw [if_pos (by omega)]; with_reducible rfl)
            try simp only [List.getElem_toArray, List.getElem_cons_zero, List.getElem_cons_succ, Act.put, List.setIfInBounds_toArray, List.set_cons_zero, List.set_cons_succ]
            refine wpAnyH_take (i := 7) (v := ?_) rfl (by kernel_rfl) (by kernel_rfl) (by kernel_rfl) (fun _ _ _ h => h) (Or.inl ⟨by rfl, ?_⟩) (by assumption) ?_
            rotate_left 1
            · intro w' hSw
              have y0 := HCG.out _ (HK.out.trans hSw)
              go_simp
              all_goals first | with_reducible rfl | (rw [if_neg (by omega)]; done) | (rw [if_pos (by omega)]; done) | (rw [if_neg (by omega)]; with_reducible rfl) | (rw [if_pos (by omega)]; with_reducible rfl)
            try simp only [List.getElem_toArray, List.getElem_cons_zero, List.getElem_cons_succ, Act.put, List.setIfInBounds_toArray, List.set_cons_zero, List.set_cons_succ]
            refine wpAnyH_take (i := 8) (v := ?_) rfl (by kernel_rfl) (by kernel_rfl) (by kernel_rfl) (fun _ _ _ h => h) (Or.inl ⟨by rfl, ?_⟩) (by assumption) ?_
            rotate_left 1
            · intro w' hSw
              go_simp
              all_goals first | with_reducible rfl | (rw [if_neg (by omega)]; done) | (rw [if_pos (by omega)]; done) | (rw [if_neg (by omega)]; with_reducible rfl) | (rw [if_pos (by omega)]; with_reducible rfl)
            try simp only [List.getElem_toArray, List.getElem_cons_zero, List.getElem_cons_succ, Act.put, List.setIfInBounds_toArray, List.set_cons_zero, List.set_cons_succ]
            refine wpAnyH_done (by kernel_rfl) ?_ _
            refine NoPanic.normal ?_
            -- R 14a end
            go_wp2_with fail
            go_roundw
            case rel => exact ⟨k + 1, by omega, by simp [hqk], HZR2, Lib.hid (HK.out.trans T0.out)⟩
            case measure => simp [intOf, hqk]; omega
          · have hRR : R = (st, 8) := HR.out.symm.trans (keep9_used HAZ.out HZ.out h0)
            subst hRR
            have n3 : ¬ ((st.getD y 0 : Nat) : Int) = (0 : Int) := fun h => h0 (by omega)
            have e3 : (((st.getD y 0 : Nat) : Int) != (0 : Int)) = true := bne_iff_ne.2 n3
            clear h0
            generalize st.getD y 0 = XX at *
            go_wp2_with fail
            -- R 14b
            refine wp_region_noPanic ?_
            refine wp_region_held_drew (S := fun X => Turn (fun _ => False) wz X) (by kernel_rfl) ((Turn.refl (fun _ => False) wz).drew) (fun hHeld => ?_)
            refine wpAnyH_named9 (fun X0 hX0 => ?_)
            have T0 : Hid (Turn (fun _ => False) wz X0) := Lib.hid (by rw [hX0]; exact (Turn.refl (fun _ => False) wz).drew)
            have hH0 := T0.out
            clear hHeld hX0
            refine wpAnyH_take (i := 0) (v := ?_) rfl (by kernel_rfl) (by kernel_rfl) (by kernel_rfl) (fun _ _ _ h => h) (Or.inl ⟨by rfl, ?_⟩) (by assumption) ?_
            rotate_left 1
            · intro w' hSw
              go_simp
              all_goals first | with_reducible rfl | (rw [if_neg (by omega)]; done) | (rw [if_pos (by omega)]; done) | (rw [if_neg (by omega)]; with_reducible rfl) | (rw [if_pos (by omega)]; with_reducible rfl)
            try simp only [List.getElem_toArray, List.getElem_cons_zero, List.getElem_cons_succ, Act.put, List.setIfInBounds_toArray, List.set_cons_zero, List.set_cons_succ]
            refine wpAnyH_take (i := 1) (v := ?_) rfl (by kernel_rfl) (by kernel_rfl) (by kernel_rfl) (fun _ _ _ h => h) (Or.inl ⟨by rfl, ?_⟩) (by assumption) ?_
            rotate_left 1
            · intro w' hSw
              obtain ⟨x0, x1⟩ := BPW.out _ (HK.out.trans hSw)
              go_simp
              all_goals first | with_reducible rfl | (rw [if_neg (by omega)]; done) | (rw [if_pos (by omega)]; done) | (rw [if_neg (by omega)]; with_reducible rfl) | (rw [if_pos (by omega)]; with_reducible rfl)
            try simp only [List.getElem_toArray, List.getElem_cons_zero, List.getElem_cons_succ, Act.put, List.setIfInBounds_toArray, List.set_cons_zero, List.set_cons_succ]
            refine wpAnyH_take (i := 2) (v := ?_) rfl (by kernel_rfl) (by kernel_rfl) (by kernel_rfl) (fun _ _ _ h => h) (Or.inl ⟨by rfl, ?_⟩) (by assumption) ?_
            rotate_left 1
            · intro w' hSw
              go_simp
              all_goals first | with_reducible rfl | (rw [if_neg (by omega)]; done) | (rw [if_pos (by omega)]; done) | (rw [if_neg (by omega)]; with_reducible rfl) | (rw [if_pos (by omega)]; with_reducible rfl)
            try simp only [List.getElem_toArray, List.getElem_cons_zero, List.getElem_cons_succ, Act.put, List.setIfInBounds_toArray, List.set_cons_zero, List.set_cons_succ]
            refine wpAnyH_take (i := 3) (v := ?_) rfl (by kernel_rfl) (by kernel_rfl) (by kernel_rfl) (fun _ _ _ h => h) (Or.inl ⟨by rfl, ?_⟩) (by assumption) ?_
            rotate_left 1
            · intro w' hSw
              go_simp
              all_goals first | with_reducible rfl | (rw [if_neg (by omega)]; done) | (rw [if_pos (by omega)]; done) | (rw [if_neg (by omega)]; with_reducible rfl) | (rw [if_pos (by omega)]; with_reducible rfl)
            try simp only [List.getElem_toArray, List.getElem_cons_zero, List.getElem_cons_succ, Act.put, List.setIfInBounds_toArray, List.set_cons_zero, List.set_cons_succ]
            refine wpAnyH_take (i := 4) (v := ?_) rfl (by kernel_rfl) (by kernel_rfl) (by kernel_rfl) (fun _ _ _ h => h) (Or.inl ⟨by rfl, ?_⟩) (by assumption) ?_
            rotate_left 1
            · intro w' hSw
              go_simp
              all_goals first | with_reducible rfl | (rw [if_neg (by omega)]; done) | (rw [if_pos (by omega)]; done) | (rw [if_neg (by omega)]; with_reducible rfl) | (rw [if_pos (by omega)]; with_reducible rfl)
            try simp only [List.getElem_toArray, List.getElem_cons_zero, List.getElem_cons_succ, Act.put, List.setIfInBounds_toArray, List.set_cons_zero, List.set_cons_succ]
            refine wpAnyH_take (i := 5) (v := ?_) rfl (by kernel_rfl) (by kernel_rfl) (by kernel_rfl) (fun _ _ _ h => h) (Or.inl ⟨by rfl, ?_⟩) (by assumption) ?_
            rotate_left 1
            · intro w' hSw
              have y0 := HCL.out _ (HK.out.trans hSw) k _ HZ.out
              go_simp
              all_goals first | with_reducible rfl | (rw [if_neg (by omega)]; done) | (rw [if_pos (by omega)]; done) | (rw [if_neg (by omega)]; with_reducible rfl) | (rw [if_pos (by omega)]; with_reducible rfl)
            try simp only [List.getElem_toArray, List.getElem_cons_zero, List.getElem_cons_succ, Act.put, List.setIfInBounds_toArray, List.set_cons_zero, List.set_cons_succ]
            refine wpAnyH_take (i := 6) (v := ?_) rfl (by kernel_rfl) (by kernel_rfl) (by kernel_rfl) (fun _ _ _ h => h) (Or.inl ⟨by rfl, ?_⟩) (by assumption) ?_
            rotate_left 1
            · intro w' hSw
              go_simp
              all_goals first | with_reducible rfl | (rw [if_neg (by omega)]; done) | (rw [if_pos (by omega)]; done) | (rw [if_neg (by omega)]; with_reducible rfl) | (rw [if_pos (by omega)]; with_reducible rfl)
            try simp only [List.getElem_toArray, List.getElem_cons_zero, List.getElem_cons_succ, Act.put, List.setIfInBounds_toArray, List.set_cons_zero, List.set_cons_succ]
            refine wpAnyH_take (i := 7) (v := ?_) rfl (by kernel_rfl) (by kernel_rfl) (by kernel_rfl) (fun _ _ _ h => h) (Or.inl ⟨by rfl, ?_⟩) (by assumption) ?_
            rotate_left 1
            · intro w' hSw
              have y0 := HCG.out _ (HK.out.trans hSw)
              go_simp
              all_goals first | with_reducible rfl | (rw [if_neg (by omega)]; done) | (rw [if_pos (by omega)]; done) | (rw [if_neg (by omega)]; with_reducible rfl) | (rw [if_pos (by omega)]; with_reducible rfl)
            try simp only [List.getElem_toArray, List.getElem_cons_zero, List.getElem_cons_succ, Act.put, List.setIfInBounds_toArray, List.set_cons_zero, List.set_cons_succ]
            refine wpAnyH_take (i := 8) (v := ?_) rfl (by kernel_rfl) (by kernel_rfl) (by kernel_rfl) (fun _ _ _ h => h) (Or.inl ⟨by rfl, ?_⟩) (by assumption) ?_
            rotate_left 1
            · intro w' hSw
              go_simp
              all_goals first | with_reducible rfl | (rw [if_neg (by omega)]; done) | (rw [if_pos (by omega)]; done) | (rw [if_neg (by omega)]; with_reducible rfl) | (rw [if_pos (by omega)]; with_reducible rfl)
            try simp only [List.getElem_toArray, List.getElem_cons_zero, List.getElem_cons_succ, Act.put, List.setIfInBounds_toArray, List.set_cons_zero, List.set_cons_succ]
            refine wpAnyH_done (by kernel_rfl) ?_ _
            refine NoPanic.normal ?_
            -- R 14b end
            obtain ⟨x0, x1⟩ := BPW.out X0 (HK.out.trans T0.out)
            obtain ⟨⟨z0, z1, g0, g1⟩, HF⟩ := FIN.out X0 (HK.out.trans T0.out)
            go_wp2_with fail
            obtain ⟨r0, r1, hr9, ht9⟩ := HF.out
            exact bodyPost_ret (v := .tuple #[.agg #[.int .i64 fr, .slice (some ⟨g, 0, none⟩) n cP], .int .i64 8]) (by simp [results, Tryd.results18, go_sem, r0, r1]) rfl ⟨_, rfl, hr9, ht9⟩
        · obtain rfl : k = i := by omega
          have hRR : R = (tr9 1 st zs, 0) := HR.out.symm.trans (keep9_free HAZ.out (fun z hz => by
            obtain ⟨j, hj⟩ := List.getElem?_of_mem hz
            have hzr := HAZ.out.1 z hz
            obtain ⟨y, rfl⟩ : ∃ y : Nat, z = y := ⟨z.toNat, by omega⟩
            rw [Int.toNat_natCast]
            exact HZR.out j y (by have := (List.getElem?_eq_some_iff.1 hj).1; rw [HM.out] at this; exact this) hj))
          subst hRR
          have HCL3 : Hid (∀ W, Turn (fun k => k = w.heap.size) W2 W → ∀ j z, zs[j]? = some z → W.cell? ⟨b, o + j, none⟩ = some (.int .i64 z)) := Lib.hid (fun W hW j z hz => (World.cell?_of_block (w := W2) (a := ⟨b, o + j, none⟩) (hW.block b (by have := HBL.out j z hz; have := T2.out.size; omega) (fun h => by have := HBL.out j z hz; omega))).trans (HCL.out W2 (Turn.refl _ _) j z hz))
          go_wp2_with fail
          go_loopw [9] (fun v9 wy => ∃ (j : Nat) (cur : List Nat) (Au : Option Addr) (cu : Nat), j ≤ k ∧ v9 = .int .i64 j ∧ Hid (cur = tr9 1 st (zs.take j)) ∧ Hid (Rd9 (fun k => S k ∨ k = w.heap.size ∨ k = W1.heap.size) wy (.slice Au n cu) (il9 cur)) ∧ Hid (Blk wy w.heap.size 40 [.int .i64 fr, .slice Au n cu]) ∧ Hid (Turn (fun k => k = w.heap.size) W2 wy)) (fun v9 _ => k - (intOf v9).toNat)
          case atStart => exact ⟨0, st, A, cP, by omega, rfl, Lib.hid rfl, Lib.hid (R2.out.still HK.out), Lib.hid (BP.out.turn HK.out (fun h => h)), Lib.hid (HK.out.mono (fun _ _ h => h.elim))⟩
          case round =>
            obtain ⟨j, cur, Au, cu, hj, rfl, HC, HP, HB, HX⟩ := hrel
            obtain ⟨wv, rfl⟩ : ∃ W, W = wr := ⟨_, rfl⟩
            have hcl : Hid (cur.length = n) := Lib.hid (by rw [HC.out, len_tr9]; exact HN.out)
            by_cases hjk : j < k
            · have hj1 : (j : Int) < (k : Int) := by omega
              have hj0 : (0 : Int) ≤ (j : Int) := by omega
              have hqj := wrap_of ((j : Int) + 1) (by omega) (by omega)
              obtain ⟨z, hz⟩ : ∃ z, zs[j]? = some z := ⟨_, List.getElem?_eq_getElem (by rw [HM.out]; exact hjk)⟩
              have hzr := HAZ.out.1 z (List.mem_of_getElem? hz)
              obtain ⟨y, rfl⟩ : ∃ y : Nat, z = y := ⟨z.toNat, by omega⟩
              have hyn : Hid (y < n) := Lib.hid (by have := HN.out; omega)
              have HZ := Lib.hid hz
              have HC2 : Hid (cur.set y 1 = tr9 1 st (zs.take (j + 1))) := Lib.hid (by rw [List.take_add_one, hz, show (some ((y : Nat) : Int)).toList = [((y : Nat) : Int)] from rfl, tr9_snoc, Int.toNat_natCast, HC.out])
              have HWI : Hid (∀ W : World, Turn (fun _ => False) wv W → Calls Tryd.prog 40 #[.agg #[.int .i64 fr, .slice Au n cu], .int .i64 y, .int .i64 1] W fun r w' => ∃ v, r = .returned v ∧ ∃ A' c', v = .agg #[.int .i64 fr, .slice A' n c'] ∧ Rd9 (fun k => S k ∨ k = w.heap.size ∨ k = W1.heap.size) w' (.slice A' n c') (il9 (cur.set y 1)) ∧ Turn (fun _ => False) W w') := Lib.hid (fun W hW => by
                have hsz : ∀ q, (S q ∨ q = w.heap.size ∨ q = W1.heap.size) → q < W.heap.size := fun q hq => Nat.lt_of_lt_of_le (HSK.out W2 (Turn.refl _ _) q hq) (Nat.le_trans HX.out.size hW.size)
                refine (with_d hsz (HP.out.still hW) fr y (by rw [len_il9, hcl.out]; exact hyn.out) (by rw [len_il9, hcl.out]; exact hl) (1 : Int)).mono fun e w' ⟨v', h1, h2, h3⟩ => ?_
                rw [show (1 : Int) = ((1 : Nat) : Int) from rfl, il9_set] at h2
                obtain ⟨A', c', rfl, _, _⟩ := h2.ir
                rw [len_il9, List.length_set, hcl.out] at h1 h2
                exact ⟨_, h1, A', c', rfl, h2, h3⟩)
              clear hz hzr
              go_wp2_with fail
              -- R 19
              refine wp_region_noPanic ?_
              refine wp_region_held_drew (S := fun X => Turn (fun k => k = w.heap.size) wv X) (by kernel_rfl) ((Turn.refl (fun k => k = w.heap.size) wv).drew) (fun hHeld => ?_)
              refine wpAnyH_named9 (fun X0 hX0 => ?_)
              have T0 : Hid (Turn (fun _ => False) wv X0) := Lib.hid (by rw [hX0]; exact (Turn.refl (fun _ => False) wv).drew)
              have hH0 := T0.out.mono (T := fun k => k = w.heap.size) (fun _ _ h => h.elim)
              clear hHeld hX0
              refine wpAnyH_take (i := 1) (v := ?_) rfl (by kernel_rfl) (by kernel_rfl) (by kernel_rfl) (fun _ _ _ h => h) (Or.inl ⟨by rfl, ?_⟩) (by assumption) ?_
              rotate_left 1
              · intro w' hSw
                go_simp
                all_goals first | with_reducible rfl | (rw [if_neg (by omega)]; done) | (rw [if_pos (by omega)]; done) | (rw [if_neg (by omega)]; with_reducible rfl) | (rw [if_pos (by omega)]; with_reducible rfl)
              try simp only [List.getElem_toArray, List.getElem_cons_zero, List.getElem_cons_succ, Act.put, List.setIfInBounds_toArray, List.set_cons_zero, List.set_cons_succ]
              refine wpAnyH_take (i := 2) (v := ?_) rfl (by kernel_rfl) (by kernel_rfl) (by kernel_rfl) (fun _ _ _ h => h) (Or.inl ⟨by rfl, ?_⟩) (by assumption) ?_
              rotate_left 1
              · intro w' hSw
                go_simp
                all_goals first | with_reducible rfl | (rw [if_neg (by omega)]; done) | (rw [if_pos (by omega)]; done) | (rw [if_neg (by omega)]; with_reducible rfl) | (rw [if_pos (by omega)]; with_reducible rfl)
              try simp only [List.getElem_toArray, List.getElem_cons_zero, List.getElem_cons_succ, Act.put, List.setIfInBounds_toArray, List.set_cons_zero, List.set_cons_succ]
              refine wpAnyH_take (i := 3) (v := ?_) rfl (by kernel_rfl) (by kernel_rfl) (by kernel_rfl) (fun _ _ _ h => h) (Or.inl ⟨by rfl, ?_⟩) (by assumption) ?_
              rotate_left 1
              · intro w' hSw
                go_simp
                all_goals first | with_reducible rfl | (rw [if_neg (by omega)]; done) | (rw [if_pos (by omega)]; done) | (rw [if_neg (by omega)]; with_reducible rfl) | (rw [if_pos (by omega)]; with_reducible rfl)
              try simp only [List.getElem_toArray, List.getElem_cons_zero, List.getElem_cons_succ, Act.put, List.setIfInBounds_toArray, List.set_cons_zero, List.set_cons_succ]
              refine wpAnyH_take (i := 4) (v := ?_) rfl (by kernel_rfl) (by kernel_rfl) (by kernel_rfl) (fun _ _ _ h => h) (Or.inl ⟨by rfl, ?_⟩) (by assumption) ?_
              rotate_left 1
              · intro w' hSw
                have y0 := HCL3.out _ (HX.out.trans hSw) j _ HZ.out
                go_simp
                all_goals first | with_reducible rfl | (rw [if_neg (by omega)]; done) | (rw [if_pos (by omega)]; done) | (rw [if_neg (by omega)]; with_reducible rfl) | (rw [if_pos (by omega)]; with_reducible rfl)
              try simp only [List.getElem_toArray, List.getElem_cons_zero, List.getElem_cons_succ, Act.put, List.setIfInBounds_toArray, List.set_cons_zero, List.set_cons_succ]
              refine wpAnyH_ready (rs := [0]) (by kernel_rfl) (by simp) ?_
              refine AllReadyH.cons rfl (fun K hK => ?_) AllReadyH.nil
              obtain ⟨x0, x1, _, _⟩ := cells2 (HB.out.turn T0.out (fun h => h))
              go_simp
              refine hK.out _ _ hH0 (fun hHeld => ?_)
              clear hK K hHeld x0 x1
              try simp only [List.getElem_toArray, List.getElem_cons_zero, List.getElem_cons_succ, Act.put, List.setIfInBounds_toArray, List.set_cons_zero, List.set_cons_succ]
              refine wpAnyH_ready (rs := [5]) (by kernel_rfl) (by simp) ?_
              refine AllReadyH.cons rfl (fun K hK => ?_) AllReadyH.nil
              refine step_call rfl 40 Tryd.f40 _ _ rfl Tryd.func40 (by kernel_rfl) (by kernel_rfl) _ _ (HWI.out X0 T0.out) (by go_simp) ?_
              rintro v8 w8 ⟨A8, c8, rfl, hr8, ht8⟩
              have T8 := Lib.hid (T0.out.trans ht8)
              have P8 := Lib.hid hr8
              have hH8 := T8.out.mono (T := fun k => k = w.heap.size) (fun _ _ h => h.elim)
              clear hr8 ht8
              refine hK.out _ _ hH8 (fun hHeld => ?_)
              clear hK K hHeld
              try simp only [List.getElem_toArray, List.getElem_cons_zero, List.getElem_cons_succ, Act.put, List.setIfInBounds_toArray, List.set_cons_zero, List.set_cons_succ]
              refine wpAnyH_ready (rs := [6]) (by kernel_rfl) (by simp) ?_
              refine AllReadyH.cons rfl (fun K hK => ?_) AllReadyH.nil
              obtain ⟨x0, x1, f0, f1⟩ := cells2 (HB.out.turn T8.out (fun h => h))
              obtain ⟨hb9, ht9, _, _⟩ := box2 (HB.out.turn T8.out (fun h => h)) (.int .i64 fr) (.slice A8 n c8)
              have hS9 := hH8.trans ht9
              go_simp
              refine hK.out _ _ hS9 (fun hHeld => ?_)
              refine wpAnyH_named9 (fun X9 e9 => ?_)
              have T9 : Hid (Turn (fun k => k = w.heap.size) wv X9) := Lib.hid (by rw [e9]; exact hS9)
              have N9 : Hid (Blk X9 w.heap.size 40 [.int .i64 fr, .slice A8 n c8]) := Lib.hid (by rw [e9]; exact hb9)
              have P9 : Hid (Rd9 (fun k => S k ∨ k = w.heap.size ∨ k = W1.heap.size) X9 (.slice A8 n c8) (il9 (cur.set y 1))) := Lib.hid (by rw [e9]; exact P8.out.stp ⟨ht9.mono (fun _ _ h => .inr (.inl h)), fun _ h => .inl h⟩)
              have hH9 := T9.out
              clear hK K hHeld e9 hS9 hb9 ht9 x0 x1 f0 f1
              try simp only [List.getElem_toArray, List.getElem_cons_zero, List.getElem_cons_succ, Act.put, List.setIfInBounds_toArray, List.set_cons_zero, List.set_cons_succ]
              refine wpAnyH_done (by kernel_rfl) ?_ _
              refine NoPanic.normal ?_
              -- R 19 end
              go_wp2_with fail
              go_roundw
              case rel => exact ⟨j + 1, cur.set y 1, A8, c8, by omega, by simp [hqj], HC2, P9, N9, Lib.hid (HX.out.trans T9.out)⟩
              case measure => simp [intOf, hqj]; omega
            · obtain rfl : j = k := by omega
              have hce : cur = tr9 1 st zs := by have := HC.out; rw [← HM.out, List.take_length] at this; exact this
              obtain ⟨x0, x1, _, _⟩ := cells2 HB.out
              have hbc := BC.out.turn HX.out (by omega)
              obtain ⟨z0, z1, g0, g1⟩ := cells2 hbc
              have HF := Lib.hid (box2 hbc (.int .i64 fr) (.slice Au n cu))
              clear hbc
              go_wp2_with fail
              obtain ⟨CZ, TS, r0, r1⟩ := HF.out
              have hr9 : Rd9 S _ (.slice Au n cu) (il9 (tr9 1 st zs)) := hce ▸ (⟨own_far9 HP.out.own TS (fun k hk e => HP.out.far k hk (.inr (.inr e))), fun b hb hs => HP.out.far b hb (.inl hs)⟩ : Rd9 S _ (.slice Au n cu) (il9 cur))
              exact bodyPost_ret (v := .tuple #[.agg #[.int .i64 fr, .slice Au n cu], .int .i64 0]) (by simp [results, Tryd.results18, go_sem, r0, r1]) rfl ⟨_, rfl, hr9, (T2.out.trans_new HX.out (fun k hk e => by omega)).trans_new TS (fun k hk e => by omega)⟩
end Go.Proofs.YtmedljnbcpdoeaaDoor
/- Layer 9: New's refusals, the program's. -/
namespace Go.Proofs.YtmedljnbcpdoeaaDoor
open Go.RowKit
set_option linter.unusedVariables false
set_option linter.unusedSimpArgs false
set_option maxRecDepth 100000

set_option maxHeartbeats 2000000 in
theorem new9_bad {w : World} {SD : Nat → Prop} {pd : Nat} {D : Dsk} (hD : Dq SD w pd D) (hT : Tb w) (fr n : Int) (hfr : -9223372036854775808 ≤ fr ∧ fr ≤ 9223372036854775807) (hn : -9223372036854775808 ≤ n ∧ n ≤ 9223372036854775807) (hbad : bad9 D.kept.length fr n) :
    Calls Tryd.prog 8 #[.pointer (some ⟨pd, 0, none⟩), .int .i64 fr, .int .i64 n] w fun r w' => r = .returned (.tuple #[.pointer none, .int .i64 2]) ∧ Turn (fun _ => False) w w' := by
  have hkm : D.kept.length ≤ 16384 := hD.1.most
  have hkp := hD.1.pos
  have HSZ := Lib.hid (size_dq hD)
  obtain ⟨K, hK⟩ : ∃ K, D.kept.length = K := ⟨_, rfl⟩
  unfold bad9 at hbad
  rw [hK] at HSZ hkm hbad
  have hk0 : 0 < K := by rw [← hK]; omega
  have z0 : ((K : Int) == 0) = false := by simp; omega
  have HT := Lib.hid hT
  clear hD hK hT hkp
  by_cases h1 : n < 1 ∨ 16384 < n
  · have HAN := Lib.hid (new7_bad n h1)
    clear hbad h1
    go_enter Tryd.func8, Tryd.ntmps8
    go_wp2_with fail
    refine HSZ.out.mono ?_
    rintro e w1 ⟨rfl, rfl⟩
    go_wp2_with fail
    refine (HAN.out _).mono ?_
    rintro e w2 ⟨rfl, rfl⟩
    go_wp2_with fail
    exact bodyPost_ret (v := .tuple #[.pointer none, .int .i64 2]) (by simp [results, Tryd.results8, go_sem]) rfl ⟨rfl, Turn.refl _ _⟩
  · obtain ⟨m, rfl⟩ : ∃ m : Nat, n = m := ⟨n.toNat, by omega⟩
    have HAN := Lib.hid (fun (W : World) (hW : Tb W) => new7_ok m (by omega) (by omega) W hW)
    by_cases h2 : fr < 0
    · clear hbad h1
      have d1 : decide (fr < 0) = true := by simpa using h2
      clear h2
      go_enter Tryd.func8, Tryd.ntmps8
      go_wp2_with fail
      refine HSZ.out.mono ?_
      rintro e w1 ⟨rfl, rfl⟩
      go_wp2_with fail
      refine (HAN.out _ HT.out).mono ?_
      rintro e w2 ⟨pa, ga, rfl, hal, hpa, hga, ht⟩
      have TT := Lib.hid ht
      clear hal ht
      go_wp2_with fail
      exact bodyPost_ret (v := .tuple #[.pointer none, .int .i64 2]) (by simp [results, Tryd.results8, go_sem]) rfl ⟨rfl, TT.out⟩
    · have d1 : decide (fr < 0) = false := by simpa using h2
      have z2 := wrap_of ((K : Int) - fr) (by omega) (by omega)
      have hq : Hid (IntKind.i64.wrap (((K : Int) - fr).tdiv 8) = ((K : Int) - fr).tdiv 8 ∧ ((K : Int) - fr).tdiv 8 < (m : Int)) := Lib.hid (by
        rcases Int.lt_or_le ((K : Int) - fr) 0 with h | h
        · have e : ((K : Int) - fr).tdiv 8 = -((fr - K) / 8) := by
            rw [show (K : Int) - fr = -(fr - K) by omega, Int.neg_tdiv, Int.tdiv_eq_ediv_of_nonneg (by omega)]
          rw [e]
          exact ⟨wrap_of _ (by omega) (by omega), by omega⟩
        · rw [Int.tdiv_eq_ediv_of_nonneg h]
          exact ⟨wrap_of _ (by omega) (by omega), by omega⟩)
      clear hbad h1 h2
      go_enter Tryd.func8, Tryd.ntmps8
      go_wp2_with fail
      refine HSZ.out.mono ?_
      rintro e w1 ⟨rfl, rfl⟩
      go_wp2_with fail
      refine (HAN.out _ HT.out).mono ?_
      rintro e w2 ⟨pa, ga, rfl, hal, hpa, hga, ht⟩
      have TT := Lib.hid ht
      obtain ⟨hq1, hq2⟩ := hq.out
      clear hal ht
      have hq3 : wrap64 (((K : Int) - fr).tdiv 8) < (m : Int) := by
        have h := hq1
        first
          | (rw [IntKind.wrap_i64] at h; rw [h]; exact hq2)
          | (simp only [go_sem] at h; rw [h]; exact hq2)
          | (unfold wrap64; rw [IntKind.wrap_i64] at h; omega)
          | (unfold wrap64; omega)
      clear hq1 hq2
      go_wp2_with fail
      exact bodyPost_ret (v := .tuple #[.pointer none, .int .i64 2]) (by simp [results, Tryd.results8, go_sem]) rfl ⟨rfl, TT.out⟩
end Go.Proofs.YtmedljnbcpdoeaaDoor
/- Layer 9: alike: the program's pager has what the document's has. (mkDpK.py) -/
namespace Go.Proofs.YtmedljnbcpdoeaaDoor
open Go.RowKit
set_option linter.unusedVariables false
set_option linter.unusedSimpArgs false
set_option maxRecDepth 100000

theorem pk0_to (st : List Nat) : ∀ n, n ≤ st.length → (pkTo 0 st n).length = cnt (bits9 st) 0 n
  | 0, _ => rfl
  | n + 1, hn => by
    have ih := pk0_to st n (by omega)
    rw [pkTo_succ, cnt, ← ih, Nat.zero_add, bits9_at st n (by omega)]
    cases (st.getD n 0 == 0) <;> simp
theorem pk0_free (st : List Nat) : (pk9 0 st).length = free7 (bits9 st) := by
  have h := pk0_to st st.length (Nat.le_refl _)
  rw [show pk9 0 st = pkTo 0 st st.length from rfl, h]
  unfold free7
  rw [len_bits9]
set_option maxHeartbeats 4000000 in
theorem alike_any {S S2 : Nat → Prop} {w : World} {p pd fr : Nat} {st : List Nat} {D : Dsk} {v : Value} (hq : Pq S w p pd fr st D) (h : Rd9 S2 w v (il9 st)) (hl : st.length ≤ 16384) :
    Calls Tryd.prog 28 #[.pointer (some ⟨p, 0, none⟩), .agg #[.int .i64 fr, v]] w fun r w' => r = .returned (.bool true) ∧ Turn (fun _ => False) w w' := by
  obtain ⟨A, cP, rfl, hir, hnil⟩ := h.ir
  rw [len_il9] at h ⊢
  obtain ⟨n, hn⟩ : ∃ n, st.length = n := ⟨_, rfl⟩
  rw [hn] at h ⊢
  obtain ⟨W1, hW1⟩ : ∃ W, w.alloc (.cells #[.int .i64 fr, .slice A n cP] 40) = W := ⟨_, rfl⟩
  have BX : Hid (Blk W1 w.heap.size 40 [.int .i64 fr, .slice A n cP]) := Lib.hid (hW1 ▸ Blk.new _ _ _)
  have TW : Hid (Turn (fun _ => False) w W1) := Lib.hid (hW1 ▸ (Turn.refl _ _).alloc _)
  obtain ⟨L0, hL0⟩ : ∃ L, pk9 0 st = L := ⟨_, rfl⟩
  obtain ⟨L1, hL1⟩ : ∃ L, pk9 1 st = L := ⟨_, rfl⟩
  obtain ⟨L2, hL2⟩ : ∃ L, pk9 2 st = L := ⟨_, rfl⟩
  obtain ⟨L3, hL3⟩ : ∃ L, pk9 3 st = L := ⟨_, rfl⟩
  have hbd : ∀ k, (pk9 k st).length ≤ 16384 := fun k => Nat.le_trans (pkTo_le k st st.length) hl
  have M1 : Hid (L1.length ≤ 1000000) := Lib.hid (by rw [← hL1]; have := hbd 1; omega)
  have M2 : Hid (L2.length ≤ 1000000) := Lib.hid (by rw [← hL2]; have := hbd 2; omega)
  have M3 : Hid (L3.length ≤ 1000000) := Lib.hid (by rw [← hL3]; have := hbd 3; omega)
  have N0 := Lib.hid hL0
  have N1 := Lib.hid hL1
  have N2 := Lib.hid hL2
  have N3 := Lib.hid hL3
  have HF0 : free7 (bits9 st) = L0.length := by rw [← hL0, pk0_free]
  have HTH0 : Hid (∀ (s : Nat) (L : List Int), pk9 s st = L → ∀ X, Turn (fun _ => False) w X → Calls Tryd.prog 57 #[.agg #[.int .i64 fr, .slice A n cP], .int .i64 s] X fun e w' => ∃ v, e = .returned v ∧ (∃ AT cT, v = .slice AT L.length cT ∧ Ir w' AT L ∧ Turn (fun _ => False) X w')) := Lib.hid (fun s L hL X hX => (those_d (h.still hX) hl fr s).mono fun e w' ⟨v', h1, h2, h3⟩ => by
    obtain ⟨AT, cT, e1, hi⟩ := h2.ir
    subst hL
    exact ⟨v', h1, AT, cT, e1, hi, h3⟩)
  have HSM : Hid (∀ (L : List Int), L.length ≤ 1000000 → ∀ A1 c1 A2 c2 X, Ir X A1 L → Ir X A2 L → Calls Tryd.prog 31 #[.slice A1 L.length c1, .slice A2 L.length c2] X fun e w' => ∃ v, e = .returned v ∧ (v = .bool true ∧ Turn (fun _ => False) X w')) := Lib.hid (fun L hm A1 c1 A2 c2 X h1 h2 => (same9_any A1 c1 A2 c2 L X h1 h2 hm).mono fun e w' ⟨h1, h2⟩ => ⟨_, h1, rfl, h2⟩)
  have HQ0 := Lib.hid (hq.still TW.out)
  clear hL0 hL1 hL2 hL3 hbd h hir hnil hq hn
  go_enter Tryd.func28, Tryd.ntmps28
  go_wp2_with fail
  clear hW1
  refine (pages9_q HQ0.out).mono ?_
  rintro e w2 ⟨x1, x2, x3, rfl, r1, r2, r3, hq2, ht⟩
  rw [N1.out] at r1
  rw [N2.out] at r2
  rw [N3.out] at r3
  obtain ⟨B1, c1, rfl, hr1⟩ := r1.ir
  obtain ⟨B2, c2, rfl, hr2⟩ := r2.ir
  obtain ⟨B3, c3, rfl, hr3⟩ := r3.ir
  have R1 := Lib.hid hr1
  have R2 := Lib.hid hr2
  have R3 := Lib.hid hr3
  have TA := Lib.hid (TW.out.trans ht)
  have HTH := Lib.hid (fun (s : Nat) (L : List Int) (hL : pk9 s st = L) (X : World) (hX : Turn (fun _ => False) w2 X) => HTH0.out s L hL X (TA.out.trans hX))
  have HBX : Hid (∀ X, Turn (fun _ => False) w2 X → X.cell? ⟨w.heap.size, 0, none⟩ = some (.int .i64 fr) ∧ X.cell? ⟨w.heap.size, 1, none⟩ = some (.slice A n cP)) := Lib.hid (fun X hX => by obtain ⟨x0, x1, _, _⟩ := cells2 (BX.out.turn (ht.trans hX) (fun h => h)); exact ⟨x0, x1⟩)
  have HFR : Hid (∀ X, Turn (fun _ => False) w2 X → Calls Tryd.prog 58 #[.pointer (some ⟨p, 0, none⟩)] X fun e w' => ∃ v, e = .returned v ∧ (v = .int .i64 (L0.length : Int) ∧ w' = X)) := Lib.hid (fun X hX => (free9_q (hq2.still hX)).mono fun e w' ⟨h1, h2⟩ => ⟨_, h1, by rw [HF0], h2⟩)
  clear r1 r2 r3 hr1 hr2 hr3 hq2 ht HF0 HTH0
  go_wp2_with fail
  refine wp_region_noPanic ?_
  refine wp_region_held_drew (S := fun X => Turn (fun _ => False) w2 X) (by kernel_rfl) ((Turn.refl (fun _ => False) w2).drew) (fun hHeld => ?_)
  have T0 : Hid (Turn (fun _ => False) w2 w2.drew) := Lib.hid ((Turn.refl (fun _ => False) w2).drew)
  clear hHeld
  refine wpAnyH_take (i := 0) (v := ?_) rfl (by kernel_rfl) (by kernel_rfl) (by kernel_rfl) (fun _ _ _ h => h) (Or.inl ⟨by rfl, ?_⟩) (by assumption) ?_
  rotate_left 1
  · intro w' hSw
    go_simp
    all_goals first | with_reducible rfl | (rw [if_neg (by omega)]; done) | (rw [if_pos (by omega)]; done) | (rw [if_neg (by omega)]; with_reducible rfl) | (rw [if_pos (by omega)]; with_reducible rfl)
  try simp only [List.getElem_toArray, List.getElem_cons_zero, Act.put, List.setIfInBounds_toArray, List.set_cons_zero, List.set_cons_succ]
  refine wpAnyH_take (i := 1) (v := ?_) rfl (by kernel_rfl) (by kernel_rfl) (by kernel_rfl) (fun _ _ _ h => h) (Or.inl ⟨by rfl, ?_⟩) (by assumption) ?_
  rotate_left 1
  · intro w' hSw
    have hS1 := hSw
    obtain ⟨x0, x1⟩ := HBX.out _ hS1
    go_simp
    all_goals first | with_reducible rfl | (rw [if_neg (by omega)]; done) | (rw [if_pos (by omega)]; done) | (rw [if_neg (by omega)]; with_reducible rfl) | (rw [if_pos (by omega)]; with_reducible rfl)
  try simp only [List.getElem_toArray, List.getElem_cons_zero, List.getElem_cons_succ, Act.put, List.setIfInBounds_toArray, List.set_cons_zero, List.set_cons_succ]
  refine wpAnyH_ready (rs := [2]) (by kernel_rfl) (by simp) ?_
  refine AllReadyH.cons rfl (fun K hK => ?_) AllReadyH.nil
  refine step_call_on 57 Tryd.f57 _ _ rfl Tryd.func57 (by kernel_rfl) (by kernel_rfl) _ _ (HTH.out 1 L1 N1.out _ T0.out) (by go_simp) (by first | rfl | go_simp) ?_
  rintro v9 w9 ⟨AT1, cT1, rfl, hi, ht⟩
  have T1 := Lib.hid (T0.out.trans ht)
  have I1 := Lib.hid hi
  clear hi
  clear ht
  refine hK.out _ _ T1.out (fun hHeld => ?_)
  clear hHeld
  clear hK K
  try simp only [List.getElem_toArray, List.getElem_cons_zero, List.getElem_cons_succ, Act.put, List.setIfInBounds_toArray, List.set_cons_zero, List.set_cons_succ]
  refine wpAnyH_ready (rs := [3]) (by kernel_rfl) (by simp) ?_
  refine AllReadyH.cons rfl (fun K hK => ?_) AllReadyH.nil
  refine step_call_on 31 Tryd.f31 _ _ rfl Tryd.func31 (by kernel_rfl) (by kernel_rfl) _ _ (HSM.out L1 M1.out B1 c1 AT1 cT1 _ (R1.out.still T1.out) I1.out) (by go_simp) (by first | rfl | go_simp) ?_
  rintro v9 w9 ⟨rfl, ht⟩
  have T2 := Lib.hid (T1.out.trans ht)
  clear ht
  refine hK.out _ _ T2.out (fun hHeld => ?_)
  clear hHeld
  clear hK K
  try simp only [List.getElem_toArray, List.getElem_cons_zero, List.getElem_cons_succ, Act.put, List.setIfInBounds_toArray, List.set_cons_zero, List.set_cons_succ]
  refine wpAnyH_take (i := 4) (v := ?_) rfl (by kernel_rfl) (by kernel_rfl) (by kernel_rfl) (fun _ _ _ h => h) (Or.inl ⟨by rfl, ?_⟩) (by assumption) ?_
  rotate_left 1
  · intro w' hSw
    go_simp
    all_goals first | with_reducible rfl | (rw [if_neg (by omega)]; done) | (rw [if_pos (by omega)]; done) | (rw [if_neg (by omega)]; with_reducible rfl) | (rw [if_pos (by omega)]; with_reducible rfl)
  try simp only [List.getElem_toArray, List.getElem_cons_zero, List.getElem_cons_succ, Act.put, List.setIfInBounds_toArray, List.set_cons_zero, List.set_cons_succ]
  refine wpAnyH_take (i := 5) (v := ?_) rfl (by kernel_rfl) (by kernel_rfl) (by kernel_rfl) (fun _ _ _ h => h) (Or.inl ⟨by rfl, ?_⟩) (by assumption) ?_
  rotate_left 1
  · intro w' hSw
    go_simp
    all_goals first | with_reducible rfl | (rw [if_neg (by omega)]; done) | (rw [if_pos (by omega)]; done) | (rw [if_neg (by omega)]; with_reducible rfl) | (rw [if_pos (by omega)]; with_reducible rfl)
  try simp only [List.getElem_toArray, List.getElem_cons_zero, List.getElem_cons_succ, Act.put, List.setIfInBounds_toArray, List.set_cons_zero, List.set_cons_succ]
  refine wpAnyH_take (i := 6) (v := ?_) rfl (by kernel_rfl) (by kernel_rfl) (by kernel_rfl) (fun _ _ _ h => h) (Or.inl ⟨by rfl, ?_⟩) (by assumption) ?_
  rotate_left 1
  · intro w' hSw
    have hS1 := hSw
    obtain ⟨x0, x1⟩ := HBX.out _ hS1
    go_simp
    all_goals first | with_reducible rfl | (rw [if_neg (by omega)]; done) | (rw [if_pos (by omega)]; done) | (rw [if_neg (by omega)]; with_reducible rfl) | (rw [if_pos (by omega)]; with_reducible rfl)
  try simp only [List.getElem_toArray, List.getElem_cons_zero, List.getElem_cons_succ, Act.put, List.setIfInBounds_toArray, List.set_cons_zero, List.set_cons_succ]
  refine wpAnyH_ready (rs := [7]) (by kernel_rfl) (by simp) ?_
  refine AllReadyH.cons rfl (fun K hK => ?_) AllReadyH.nil
  refine step_call_on 57 Tryd.f57 _ _ rfl Tryd.func57 (by kernel_rfl) (by kernel_rfl) _ _ (HTH.out 2 L2 N2.out _ T2.out) (by go_simp) (by first | rfl | go_simp) ?_
  rintro v9 w9 ⟨AT2, cT2, rfl, hi, ht⟩
  have T3 := Lib.hid (T2.out.trans ht)
  have I2 := Lib.hid hi
  clear hi
  clear ht
  refine hK.out _ _ T3.out (fun hHeld => ?_)
  clear hHeld
  clear hK K
  try simp only [List.getElem_toArray, List.getElem_cons_zero, List.getElem_cons_succ, Act.put, List.setIfInBounds_toArray, List.set_cons_zero, List.set_cons_succ]
  refine wpAnyH_ready (rs := [8]) (by kernel_rfl) (by simp) ?_
  refine AllReadyH.cons rfl (fun K hK => ?_) AllReadyH.nil
  refine step_call_on 31 Tryd.f31 _ _ rfl Tryd.func31 (by kernel_rfl) (by kernel_rfl) _ _ (HSM.out L2 M2.out B2 c2 AT2 cT2 _ (R2.out.still T3.out) I2.out) (by go_simp) (by first | rfl | go_simp) ?_
  rintro v9 w9 ⟨rfl, ht⟩
  have T4 := Lib.hid (T3.out.trans ht)
  clear ht
  refine hK.out _ _ T4.out (fun hHeld => ?_)
  clear hHeld
  clear hK K
  try simp only [List.getElem_toArray, List.getElem_cons_zero, List.getElem_cons_succ, Act.put, List.setIfInBounds_toArray, List.set_cons_zero, List.set_cons_succ]
  refine wpAnyH_take (i := 9) (v := ?_) rfl (by kernel_rfl) (by kernel_rfl) (by kernel_rfl) (fun _ _ _ h => h) (Or.inl ⟨by rfl, ?_⟩) (by assumption) ?_
  rotate_left 1
  · intro w' hSw
    go_simp
    all_goals first | with_reducible rfl | (rw [if_neg (by omega)]; done) | (rw [if_pos (by omega)]; done) | (rw [if_neg (by omega)]; with_reducible rfl) | (rw [if_pos (by omega)]; with_reducible rfl)
  try simp only [List.getElem_toArray, List.getElem_cons_zero, List.getElem_cons_succ, Act.put, List.setIfInBounds_toArray, List.set_cons_zero, List.set_cons_succ]
  refine wpAnyH_take (i := 10) (v := ?_) rfl (by kernel_rfl) (by kernel_rfl) (by kernel_rfl) (fun _ _ _ h => h) (Or.inl ⟨by rfl, ?_⟩) (by assumption) ?_
  rotate_left 1
  · intro w' hSw
    go_simp
    all_goals first | with_reducible rfl | (rw [if_neg (by omega)]; done) | (rw [if_pos (by omega)]; done) | (rw [if_neg (by omega)]; with_reducible rfl) | (rw [if_pos (by omega)]; with_reducible rfl)
  try simp only [List.getElem_toArray, List.getElem_cons_zero, List.getElem_cons_succ, Act.put, List.setIfInBounds_toArray, List.set_cons_zero, List.set_cons_succ]
  refine wpAnyH_take (i := 11) (v := ?_) rfl (by kernel_rfl) (by kernel_rfl) (by kernel_rfl) (fun _ _ _ h => h) (Or.inl ⟨by rfl, ?_⟩) (by assumption) ?_
  rotate_left 1
  · intro w' hSw
    go_simp
    all_goals first | with_reducible rfl | (rw [if_neg (by omega)]; done) | (rw [if_pos (by omega)]; done) | (rw [if_neg (by omega)]; with_reducible rfl) | (rw [if_pos (by omega)]; with_reducible rfl)
  try simp only [List.getElem_toArray, List.getElem_cons_zero, List.getElem_cons_succ, Act.put, List.setIfInBounds_toArray, List.set_cons_zero, List.set_cons_succ]
  refine wpAnyH_take (i := 12) (v := ?_) rfl (by kernel_rfl) (by kernel_rfl) (by kernel_rfl) (fun _ _ _ h => h) (Or.inl ⟨by rfl, ?_⟩) (by assumption) ?_
  rotate_left 1
  · intro w' hSw
    have hS1 := hSw
    obtain ⟨x0, x1⟩ := HBX.out _ hS1
    go_simp
    all_goals first | with_reducible rfl | (rw [if_neg (by omega)]; done) | (rw [if_pos (by omega)]; done) | (rw [if_neg (by omega)]; with_reducible rfl) | (rw [if_pos (by omega)]; with_reducible rfl)
  try simp only [List.getElem_toArray, List.getElem_cons_zero, List.getElem_cons_succ, Act.put, List.setIfInBounds_toArray, List.set_cons_zero, List.set_cons_succ]
  refine wpAnyH_ready (rs := [13]) (by kernel_rfl) (by simp) ?_
  refine AllReadyH.cons rfl (fun K hK => ?_) AllReadyH.nil
  refine step_call_on 57 Tryd.f57 _ _ rfl Tryd.func57 (by kernel_rfl) (by kernel_rfl) _ _ (HTH.out 3 L3 N3.out _ T4.out) (by go_simp) (by first | rfl | go_simp) ?_
  rintro v9 w9 ⟨AT3, cT3, rfl, hi, ht⟩
  have T5 := Lib.hid (T4.out.trans ht)
  have I3 := Lib.hid hi
  clear hi
  clear ht
  refine hK.out _ _ T5.out (fun hHeld => ?_)
  clear hHeld
  clear hK K
  try simp only [List.getElem_toArray, List.getElem_cons_zero, List.getElem_cons_succ, Act.put, List.setIfInBounds_toArray, List.set_cons_zero, List.set_cons_succ]
  refine wpAnyH_ready (rs := [14]) (by kernel_rfl) (by simp) ?_
  refine AllReadyH.cons rfl (fun K hK => ?_) AllReadyH.nil
  refine step_call_on 31 Tryd.f31 _ _ rfl Tryd.func31 (by kernel_rfl) (by kernel_rfl) _ _ (HSM.out L3 M3.out B3 c3 AT3 cT3 _ (R3.out.still T5.out) I3.out) (by go_simp) (by first | rfl | go_simp) ?_
  rintro v9 w9 ⟨rfl, ht⟩
  have T6 := Lib.hid (T5.out.trans ht)
  clear ht
  refine hK.out _ _ T6.out (fun hHeld => ?_)
  clear hHeld
  clear hK K
  try simp only [List.getElem_toArray, List.getElem_cons_zero, List.getElem_cons_succ, Act.put, List.setIfInBounds_toArray, List.set_cons_zero, List.set_cons_succ]
  refine wpAnyH_take (i := 15) (v := ?_) rfl (by kernel_rfl) (by kernel_rfl) (by kernel_rfl) (fun _ _ _ h => h) (Or.inl ⟨by rfl, ?_⟩) (by assumption) ?_
  rotate_left 1
  · intro w' hSw
    go_simp
    all_goals first | with_reducible rfl | (rw [if_neg (by omega)]; done) | (rw [if_pos (by omega)]; done) | (rw [if_neg (by omega)]; with_reducible rfl) | (rw [if_pos (by omega)]; with_reducible rfl)
  try simp only [List.getElem_toArray, List.getElem_cons_zero, List.getElem_cons_succ, Act.put, List.setIfInBounds_toArray, List.set_cons_zero, List.set_cons_succ]
  refine wpAnyH_take (i := 16) (v := ?_) rfl (by kernel_rfl) (by kernel_rfl) (by kernel_rfl) (fun _ _ _ h => h) (Or.inl ⟨by rfl, ?_⟩) (by assumption) ?_
  rotate_left 1
  · intro w' hSw
    go_simp
    all_goals first | with_reducible rfl | (rw [if_neg (by omega)]; done) | (rw [if_pos (by omega)]; done) | (rw [if_neg (by omega)]; with_reducible rfl) | (rw [if_pos (by omega)]; with_reducible rfl)
  try simp only [List.getElem_toArray, List.getElem_cons_zero, List.getElem_cons_succ, Act.put, List.setIfInBounds_toArray, List.set_cons_zero, List.set_cons_succ]
  refine wpAnyH_take (i := 17) (v := ?_) rfl (by kernel_rfl) (by kernel_rfl) (by kernel_rfl) (fun _ _ _ h => h) (Or.inl ⟨by rfl, ?_⟩) (by assumption) ?_
  rotate_left 1
  · intro w' hSw
    go_simp
    all_goals first | with_reducible rfl | (rw [if_neg (by omega)]; done) | (rw [if_pos (by omega)]; done) | (rw [if_neg (by omega)]; with_reducible rfl) | (rw [if_pos (by omega)]; with_reducible rfl)
  try simp only [List.getElem_toArray, List.getElem_cons_zero, List.getElem_cons_succ, Act.put, List.setIfInBounds_toArray, List.set_cons_zero, List.set_cons_succ]
  refine wpAnyH_take (i := 19) (v := ?_) rfl (by kernel_rfl) (by kernel_rfl) (by kernel_rfl) (fun _ _ _ h => h) (Or.inl ⟨by rfl, ?_⟩) (by assumption) ?_
  rotate_left 1
  · intro w' hSw
    have hS1 := hSw
    obtain ⟨x0, x1⟩ := HBX.out _ hS1
    go_simp
    all_goals first | with_reducible rfl | (rw [if_neg (by omega)]; done) | (rw [if_pos (by omega)]; done) | (rw [if_neg (by omega)]; with_reducible rfl) | (rw [if_pos (by omega)]; with_reducible rfl)
  try simp only [List.getElem_toArray, List.getElem_cons_zero, List.getElem_cons_succ, Act.put, List.setIfInBounds_toArray, List.set_cons_zero, List.set_cons_succ]
  refine wpAnyH_ready (rs := [18]) (by kernel_rfl) (by simp) ?_
  refine AllReadyH.cons rfl (fun K hK => ?_) AllReadyH.nil
  refine step_call_on 58 Tryd.f58 _ _ rfl Tryd.func58 (by kernel_rfl) (by kernel_rfl) _ _ (HFR.out _ T6.out) (by go_simp) (by first | rfl | go_simp) ?_
  rintro v9 w9 ⟨rfl, hw9⟩
  subst hw9
  refine hK.out _ _ T6.out (fun hHeld => ?_)
  clear hHeld
  clear hK K
  try simp only [List.getElem_toArray, List.getElem_cons_zero, List.getElem_cons_succ, Act.put, List.setIfInBounds_toArray, List.set_cons_zero, List.set_cons_succ]
  refine wpAnyH_ready (rs := [20]) (by kernel_rfl) (by simp) ?_
  refine AllReadyH.cons rfl (fun K hK => ?_) AllReadyH.nil
  refine step_call_on 57 Tryd.f57 _ _ rfl Tryd.func57 (by kernel_rfl) (by kernel_rfl) _ _ (HTH.out 0 L0 N0.out _ T6.out) (by go_simp) (by first | rfl | go_simp) ?_
  rintro v9 w9 ⟨AT0, cT0, rfl, hi, ht⟩
  have T7 := Lib.hid (T6.out.trans ht)
  clear hi
  clear ht
  refine hK.out _ _ T7.out (fun hHeld => ?_)
  clear hHeld
  clear hK K
  try simp only [List.getElem_toArray, List.getElem_cons_zero, List.getElem_cons_succ, Act.put, List.setIfInBounds_toArray, List.set_cons_zero, List.set_cons_succ]
  refine wpAnyH_take (i := 21) (v := ?_) rfl (by kernel_rfl) (by kernel_rfl) (by kernel_rfl) (fun _ _ _ h => h) (Or.inl ⟨by rfl, ?_⟩) (by assumption) ?_
  rotate_left 1
  · intro w' hSw
    go_simp
    all_goals first | with_reducible rfl | (rw [if_neg (by omega)]; done) | (rw [if_pos (by omega)]; done) | (rw [if_neg (by omega)]; with_reducible rfl) | (rw [if_pos (by omega)]; with_reducible rfl)
  try simp only [List.getElem_toArray, List.getElem_cons_zero, List.getElem_cons_succ, Act.put, List.setIfInBounds_toArray, List.set_cons_zero, List.set_cons_succ]
  refine wpAnyH_take (i := 22) (v := ?_) rfl (by kernel_rfl) (by kernel_rfl) (by kernel_rfl) (fun _ _ _ h => h) (Or.inl ⟨by rfl, ?_⟩) (by assumption) ?_
  rotate_left 1
  · intro w' hSw
    go_simp
    all_goals first | with_reducible rfl | (rw [if_neg (by omega)]; done) | (rw [if_pos (by omega)]; done) | (rw [if_neg (by omega)]; with_reducible rfl) | (rw [if_pos (by omega)]; with_reducible rfl)
  try simp only [List.getElem_toArray, List.getElem_cons_zero, List.getElem_cons_succ, Act.put, List.setIfInBounds_toArray, List.set_cons_zero, List.set_cons_succ]
  refine wpAnyH_take (i := 23) (v := ?_) rfl (by kernel_rfl) (by kernel_rfl) (by kernel_rfl) (fun _ _ _ h => h) (Or.inl ⟨by rfl, ?_⟩) (by assumption) ?_
  rotate_left 1
  · intro w' hSw
    go_simp
    all_goals first | with_reducible rfl | (rw [if_neg (by omega)]; done) | (rw [if_pos (by omega)]; done) | (rw [if_neg (by omega)]; with_reducible rfl) | (rw [if_pos (by omega)]; with_reducible rfl)
  try simp only [List.getElem_toArray, List.getElem_cons_zero, List.getElem_cons_succ, Act.put, List.setIfInBounds_toArray, List.set_cons_zero, List.set_cons_succ]
  refine wpAnyH_take (i := 24) (v := ?_) rfl (by kernel_rfl) (by kernel_rfl) (by kernel_rfl) (fun _ _ _ h => h) (Or.inl ⟨by rfl, ?_⟩) (by assumption) ?_
  rotate_left 1
  · intro w' hSw
    go_simp
    all_goals first | with_reducible rfl | (rw [if_neg (by omega)]; done) | (rw [if_pos (by omega)]; done) | (rw [if_neg (by omega)]; with_reducible rfl) | (rw [if_pos (by omega)]; with_reducible rfl)
  try simp only [List.getElem_toArray, List.getElem_cons_zero, List.getElem_cons_succ, Act.put, List.setIfInBounds_toArray, List.set_cons_zero, List.set_cons_succ]
  refine wpAnyH_done (by kernel_rfl) ?_ _
  refine NoPanic.normal ?_
  go_wp2_with fail
  go_ret
  exact ⟨rfl, TA.out.trans T7.out⟩
end Go.Proofs.YtmedljnbcpdoeaaDoor
/- Layer 9: both pagers side by side: a bundle of facts, and what keeps it. -/
namespace Go.Proofs.YtmedljnbcpdoeaaDoor
open Go.RowKit
set_option linter.unusedVariables false
set_option linter.unusedSimpArgs false
set_option maxRecDepth 100000

def Pz (S : Nat → Prop) (gm gx : Nat) (k : Nat) : Prop := S k ∨ k = gm ∨ k = gx
structure Pl9 (w0 X : World) (S : Nat → Prop) (p pd gm gx fr : Nat) (st : List Nat) (D : Dsk) (st2 : List Nat) (D2 : Dsk) (v : Value) (ks : List (List UInt8)) (A : Option Addr) (c : Nat) (B : Option Addr) (d : Nat) : Prop where
  q : Pq S X p pd fr st D
  new : ∀ k, S k → w0.heap.size ≤ k
  tn : Turn (fun _ => False) w0 X
  bm : Blk X gm 32 (rdc D2 ks A c B d)
  bx : Blk X gx 40 [.int .i64 fr, v]
  rd : Rd9 (Pz S gm gx) X v (il9 st2)
  rg : Rg (Pz S gm gx) X D2 ks A c B d
  nm : w0.heap.size ≤ gm
  nx : w0.heap.size ≤ gx
  ne : gm ≠ gx
  am : ¬ S gm
  ax : ¬ S gx
section
variable {w0 X X' : World} {S S' : Nat → Prop} {p pd gm gx fr : Nat} {st st' st2 st2' : List Nat} {D D' D2 D2' : Dsk} {v v' : Value} {ks ks' : List (List UInt8)} {A A' B B' : Option Addr} {c c' d d' : Nat}
theorem Pl9.lt (h : Pl9 w0 X S p pd gm gx fr st D st2 D2 v ks A c B d) : ∀ k, Pz S gm gx k → k < X.heap.size := fun k hk => by
  rcases hk with hk | hk | hk
  · exact h.q.lt k hk
  · rw [hk]; exact h.bm.lt
  · rw [hk]; exact h.bx.lt
theorem Pl9.lt_ (h : Pl9 w0 X S p pd gm gx fr st D st2 D2 v ks A c B d) (ht : Turn (fun _ => False) X X') : ∀ k, Pz S gm gx k → k < X'.heap.size := fun k hk => Nat.lt_of_lt_of_le (h.lt k hk) ht.size
theorem Pl9.still (h : Pl9 w0 X S p pd gm gx fr st D st2 D2 v ks A c B d) (ht : Turn (fun _ => False) X X') : Pl9 w0 X' S p pd gm gx fr st D st2 D2 v ks A c B d :=
  ⟨h.q.still ht, h.new, h.tn.trans ht, h.bm.turn ht (fun h => h), h.bx.turn ht (fun h => h), h.rd.still ht, h.rg.still ht, h.nm, h.nx, h.ne, h.am, h.ax⟩
theorem Stp.pz (gm gx : Nat) (hs : Stp S X S' X') : Stp (Pz S gm gx) X (Pz S' gm gx) X' :=
  ⟨hs.1.mono (fun k _ hk => .inl hk), fun k hk => by
    rcases hk with hk | hk | hk
    · rcases hs.2 k hk with h | h
      · exact .inl (.inl h)
      · exact .inr h
    · exact .inl (.inr (.inl hk))
    · exact .inl (.inr (.inr hk))⟩
theorem Pl9.prog (h : Pl9 w0 X S p pd gm gx fr st D st2 D2 v ks A c B d) (hq : Pq S' X' p pd fr st' D') (hs : Stp S X S' X') : Pl9 w0 X' S' p pd gm gx fr st' D' st2 D2 v ks A c B d := by
  have hsz := h.tn.size
  refine ⟨hq, fun k hk => ?_, h.tn.trans_new hs.1 (fun k hk h2 => by have := h.new k h2; omega), h.bm.turn hs.1 h.am, h.bx.turn hs.1 h.ax, h.rd.stp (Stp.pz gm gx hs), h.rg.stp (Stp.pz gm gx hs), h.nm, h.nx, h.ne, fun hk => ?_, fun hk => ?_⟩
  · rcases hs.2 k hk with h1 | h1
    · exact h.new k h1
    · omega
  · rcases hs.2 _ hk with h1 | h1
    · exact h.am h1
    · have := h.bm.lt; omega
  · rcases hs.2 _ hk with h1 | h1
    · exact h.ax h1
    · have := h.bx.lt; omega
theorem Pl9.zero (h : Pl9 w0 X S p pd gm gx fr st D st2 D2 v ks A c B d) (hz : 0 < w0.heap.size) {T : Nat → Prop} (hT : ∀ k, T k → k = gm ∨ k = gx) : (∀ k, S k → ¬ T k) ∧ ¬ T 0 := by
  refine ⟨fun k hk ht => ?_, fun ht => ?_⟩
  · rcases hT k ht with e | e
    · exact h.am (e ▸ hk)
    · exact h.ax (e ▸ hk)
  · have := h.nm
    have := h.nx
    rcases hT 0 ht with e | e <;> omega
theorem Pl9.setx (h : Pl9 w0 X S p pd gm gx fr st D st2 D2 v ks A c B d) (hz : 0 < w0.heap.size) (hr : Rd9 (Pz S gm gx) X v' (il9 st2')) : Pl9 w0 ((X.setCell ⟨gx, 0, none⟩ (.int .i64 fr)).setCell ⟨gx, 1, none⟩ v') S p pd gm gx fr st D st2' D2 v' ks A c B d := by
  obtain ⟨bx, tx, _, _⟩ := box2 h.bx (.int .i64 (fr : Int)) v'
  obtain ⟨z1, z2⟩ := h.zero hz (T := fun k => k = gx) (fun k hk => .inr hk)
  have hn := h.nx
  refine ⟨h.q.turn tx z1 z2, h.new, h.tn.trans_new tx (fun k hk e => by omega), h.bm.turn tx h.ne, bx, ⟨own_far9 hr.own tx (fun k hk e => hr.far k hk (.inr (.inr e))), hr.far⟩, h.rg.stp ⟨tx.mono (fun k _ e => .inr (.inr e)), fun k hk => .inl hk⟩, h.nm, h.nx, h.ne, h.am, h.ax⟩
theorem Pl9.setm (h : Pl9 w0 X S p pd gm gx fr st D st2 D2 v ks A c B d) (hz : 0 < w0.heap.size) (hg : Rg (Pz S gm gx) X D2' ks' A' c' B' d') : Pl9 w0 (FW X gm D2' ks' A' c' B' d') S p pd gm gx fr st D st2 D2' v ks' A' c' B' d' := by
  obtain ⟨bx, tx⟩ := put5d h.bm (.int .i64 (D2'.kept.length : Int)) (.slice A' ks'.length c') (.slice B' D2'.pend.length d') (.int .i64 D2'.fuse) (.bool D2'.dead)
  obtain ⟨z1, z2⟩ := h.zero hz (T := fun k => k = gm) (fun k hk => .inl hk)
  have hn := h.nm
  refine ⟨h.q.turn tx z1 z2, h.new, h.tn.trans_new tx (fun k hk e => by omega), bx, h.bx.turn tx (fun e => h.ne e.symm), ⟨own_far9 h.rd.own tx (fun k hk e => h.rd.far k hk (.inr (.inl e))), h.rd.far⟩, hg.stp ⟨tx.mono (fun k _ e => .inr (.inl e)), fun k hk => .inl hk⟩, h.nm, h.nx, h.ne, h.am, h.ax⟩
theorem Pl9.ok (h : Pl9 w0 X S p pd gm gx fr st D st2 D2 v ks A c B d) : D.Ok := by
  obtain ⟨pa, ga, gr, SD, hP, hD, hap, rfl, hroom⟩ := h.q
  exact hD.1
theorem Rd9.vis {S : Nat → Prop} {w : World} {v : Value} {st : List Nat} {n : Nat} (h : Rd9 S w v (il9 st)) (hn : st.length = n) : ∃ AV cV, v = .slice AV n cV := by
  obtain ⟨A, c, e, _, _⟩ := h.ir
  rw [len_il9, hn] at e
  exact ⟨A, c, e⟩
end
theorem arm9_q {S : Nat → Prop} {w : World} {p pd fr : Nat} {st : List Nat} {D : Dsk} (h : Pq S w p pd fr st D) (n : Int) (hn : n ≤ 9223372036854775807) :
    Calls Tryd.prog 23 #[.pointer (some ⟨pd, 0, none⟩), .int .i64 n] w fun r w' => r = .returned (.int .i64 (D.arm n).2) ∧ ∃ S', Pq S' w' p pd fr st (D.arm n).1 ∧ Stp S w S' w' := by
  obtain ⟨pa, ga, gr, SD, hP, hD, hap, rfl, hroom⟩ := h
  refine (arm_dq hD n hn).mono fun e w' ⟨h1, S', h2, h3⟩ => ⟨h1, ?_⟩
  exact Pq.mk (SD := SD) (hP.turn h3.1 (fun h => (hap _ h).1 rfl) (fun h => (hap _ h).2.1 rfl) (fun h => (hap _ h).2.2.1 rfl) (fun h => (hap _ h).2.2.2.1 rfl) (fun h => (hap _ h).2.2.2.2 rfl)) h2 hap ⟨hP.bx.lt, hP.al.ltp, hP.al.ltg, hP.row.lt⟩ h3.2 (h3.1.mono (fun k _ hk => .inr (.inr (.inr (.inr hk))))) (by rw [(arm_len D n).1]; exact hroom)
theorem pending9_q {S : Nat → Prop} {w : World} {p pd fr : Nat} {st : List Nat} {D : Dsk} (h : Pq S w p pd fr st D) :
    Calls Tryd.prog 29 #[.pointer (some ⟨pd, 0, none⟩)] w fun r w' => r = .returned (.int .i64 D.pend.length) ∧ w' = w := by
  obtain ⟨pa, ga, gr, SD, hP, hD, hap, rfl, hroom⟩ := h
  exact (pending_dq hD).mono fun e w' ⟨h1, h2⟩ => ⟨h1, h2.symm⟩
/-- Of no numbers Keep keeps none. -/
theorem keep_d0 {S : Nat → Prop} {w : World} {A : Option Addr} {n cP : Nat} {st : List Nat} (hS : ∀ k, S k → k < w.heap.size) (h : Rd9 S w (.slice A n cP) (il9 st)) (fr : Int) (A3 : Option Addr) (c : Nat) :
    Calls Tryd.prog 18 #[.agg #[.int .i64 fr, .slice A n cP], .slice A3 0 c] w fun r w' => r = .returned (.tuple #[.agg #[.int .i64 fr, .slice A n cP], .int .i64 0]) ∧ Rd9 S w' (.slice A n cP) (il9 st) ∧ Turn (fun _ => False) w w' := by
  obtain ⟨W1, W2, hW1, hW2, h12, BP, BC, T2, R2, HSK⟩ := boxes9 hS h fr
  clear h hS HSK
  go_enter Tryd.func18, Tryd.ntmps18
  go_wp2_with fail
  clear hW1 hW2
  go_loopw [6, 7] (fun v6 v7 wr => v6 = .int .i64 0 ∧ Hid (Turn (fun _ => False) W2 wr)) (fun _ _ _ => 0)
  case atStart => exact ⟨rfl, Lib.hid (Turn.refl _ _)⟩
  case round =>
    obtain ⟨rfl, HT⟩ := hrel
    obtain ⟨wx, rfl⟩ : ∃ W, W = wr := ⟨_, rfl⟩
    go_wp2_with fail
    go_loopw [8] (fun v8 wy => v8 = .int .i64 0 ∧ Hid (Turn (fun _ => False) W2 wy)) (fun _ _ => 0)
    case atStart => exact ⟨rfl, HT⟩
    case round =>
      clear HT
      obtain ⟨rfl, HT⟩ := hrel
      obtain ⟨wz, rfl⟩ : ∃ W, W = wr := ⟨_, rfl⟩
      go_wp2_with fail
      go_loopw [9] (fun v9 wy => v9 = .int .i64 0 ∧ Hid (Turn (fun _ => False) W2 wy)) (fun _ _ => 0)
      case atStart => exact ⟨rfl, HT⟩
      case round =>
        clear HT
        obtain ⟨rfl, HX⟩ := hrel
        obtain ⟨wv, rfl⟩ : ∃ W, W = wr := ⟨_, rfl⟩
        obtain ⟨x0, x1, _, _⟩ := cells2 (BP.out.turn HX.out (fun h => h))
        have HP := Lib.hid (R2.out.still HX.out)
        have hbc := BC.out.turn HX.out (fun h => h)
        obtain ⟨z0, z1, g0, g1⟩ := cells2 hbc
        have HF := Lib.hid (box2 hbc (.int .i64 fr) (.slice A n cP))
        clear hbc
        go_wp2_with fail
        obtain ⟨CZ, TS, r0, r1⟩ := HF.out
        have hr9 : Rd9 S _ (.slice A n cP) (il9 st) := ⟨own_far9 HP.out.own TS (fun k hk e => HP.out.far k hk (.inr (.inr e))), fun b hb hs => HP.out.far b hb (.inl hs)⟩
        exact bodyPost_ret (v := .tuple #[.agg #[.int .i64 fr, .slice A n cP], .int .i64 0]) (by simp [results, Tryd.results18, go_sem, r0, r1]) rfl ⟨rfl, hr9, (T2.out.trans HX.out).trans_new TS (fun k hk e => by omega)⟩
theorem keep9_nil (st : List Nat) : keep9 st [] = (st, 0) := by
  have h : apart9 st [] = true := by unfold apart9; rfl
  unfold keep9
  rw [h]
  rfl
theorem run_app_iv9 {P : Program} (w : World) (t ty e : TypeId) (i : TypeInfo) (ht : P.underlying t = some (.slice e)) (hi : P.info? e = some i) (hz : i.zero = some (.int .i64 0)) (hsize : i.size = 1) (hby : i.bytes = 8)
    (g n c : Nat) (A : Option Addr) (zs : List Int) (hn : zs.length = n) (hx : Iv (fun _ => False) w (.slice A n c) zs) (hbytes : n ≤ 1000) :
    ∃ v' w', (Builtin.append_ #[t, t] ty #[.slice (some ⟨g, 0, none⟩) 0 0, .slice A n c]).run P w = .ok v' w' ∧ (∃ A' c', v' = .slice A' n c' ∧ ∀ S : Nat → Prop, (∀ k, S k → k < w.heap.size) → Iv S w' (.slice A' n c') zs) ∧ Turn (fun _ => False) w w' := by
  subst hn
  by_cases h0 : zs.length = 0
  · obtain rfl : zs = [] := List.eq_nil_of_length_eq_zero h0
    refine ⟨.slice (some ⟨g, 0, none⟩) 0 0, w, ?_, ⟨_, 0, rfl, fun S _ => ⟨_, _, rfl, fun h => absurd h (by simp)⟩⟩, Turn.refl _ _⟩
    cases A with
    | none => simp [Builtin.append_, run_underlying ht, sizeOf, typeInfo, hi, Builtin.lenOf, Builtin.firstCells, storeCells]
    | some ad =>
      have := run_append_room_cells (P := P) w t ty e i ht hi g 0 0 0 ad 0 c [] (by simp) (by simp) (by simp) (by simp) (by simp) (by simp)
      simpa [World.setCells] using this
  · obtain ⟨A', c', he, hr⟩ := hx
    obtain ⟨b, o, hA, hlt, _, hc⟩ := hr (by omega)
    injection he with he _ he3
    subst he he3 hA
    obtain ⟨v', w', hrun, h2, h3⟩ := run_append_arg_grows (P := P) w t ty e i (.int .i64 0) 1 8 ht hi hz hsize hby rfl (by decide) ⟨g, 0, none⟩ 0 0 [] (by simp) (by simp) ⟨b, o, none⟩ zs.length c (zs.map (Value.int .i64)) (by simp) (fun j u hu => by
      rw [List.getElem?_map] at hu
      cases hj : zs[j]? with
      | none => rw [hj] at hu; cases hu
      | some z =>
        rw [hj] at hu; cases hu
        rw [Addr.add_mid]; exact hc j z hj) (by omega) (by unfold maxLen; omega) (by omega)
    have ho : w'.ownsRow w.heap.size e 1 v' zs.length (zs.map (Value.int .i64)) := by simpa using h2
    have ht' : Turn (fun _ => False) w w' := Turn.of_below ((Below.refl w.heap.size w).grown h3 (Nat.le_refl _) (by intro k hk; cases hk)) (fun k h1 h2 => by omega)
    obtain ⟨_, ⟨_, h00⟩ | ⟨g', cap, cur, rfl, hB, hh, hn, hcap, hs, ht2⟩⟩ := ho
    · exact absurd h00 h0
    · refine ⟨_, w', hrun, ⟨_, cap, rfl, fun S hS => ⟨_, _, rfl, fun _ => ⟨g', 0, rfl, (Array.getElem?_eq_some_iff.1 hh).1, fun h => by have := hS _ h; omega, fun j z hj => ?_⟩⟩⟩, ht'⟩
      have hcell : (zs.map (Value.int .i64))[j]? = some (.int .i64 z) := by rw [List.getElem?_map, hj]; rfl
      rw [← ht2, List.getElem?_take] at hcell
      split at hcell
      · have : w'.cell? ⟨g', 0 + j, none⟩ = cur[j]? := by simp [World.cell?, hh]
        rw [this]; simpa using hcell
      · cases hcell
theorem wpList_app_iv9 {w : World} {ops : Array Oper} {rest : List Oper} {o : Oper} {a : Go.Act} {Q : Exit → Go.Act → World → Prop} (hgd : o.guard = none) (x y : Operand)
    (ho : o.op = .call { callee := .builtin .append, args := #[x, y], argTypes := #[38, 38] })
    (g n c : Nat) (A : Option Addr) (zs : List Int) (hn : zs.length = n) (hx : a.eval x = .slice (some ⟨g, 0, none⟩) 0 0) (hy : a.eval y = .slice A n c) (hz : Iv (fun _ => False) w (.slice A n c) zs) (hb : n ≤ 1000)
    (h : ∀ A' c' w', (∀ S : Nat → Prop, (∀ k, S k → k < w.heap.size) → Iv S w' (.slice A' n c') zs) → Turn (fun _ => False) w w' → wpList Tryd.prog ops Q rest (a.put o.dst (.slice A' n c')) w') : wpList Tryd.prog ops Q (o :: rest) a w :=
  wpList_step fun K hK => by
    have hw : Region.wanted o (yielded ops a.tmps) = true := by simp [Region.wanted, hgd]
    rw [if_pos hw]
    obtain ⟨i, hi, hz2, hs, hb2⟩ := info_parts_ info_i9
    obtain ⟨v', w', hr, ⟨A', c', rfl, h2⟩, h3⟩ := run_app_iv9 (P := Tryd.prog) w 38 o.type 3 i Tryd.underlying38 hi hz2 hs hb2 g n c A zs hn hz hb
    unfold Oper.wp execOp
    simp only [ho, resolve, invoke, builtin, Sem.run_bind, Sem.run_pure, Result.andThen_ok, List.map_toArray, List.map_cons, List.map_nil, hx, hy, hr]
    exact hK _ _ (h A' c' w' h2 h3)
theorem keep_da {S : Nat → Prop} {w : World} {A : Option Addr} {n cP : Nat} {st : List Nat} (hS : ∀ k, S k → k < w.heap.size) (h : Rd9 S w (.slice A n cP) (il9 st)) (hl : st.length ≤ 16384) (fr : Int) (A3 : Option Addr) (n3 c3 : Nat) (zs : List Int) (hn : zs.length = n3) (hn2 : n3 ≤ 1000000) (hz : Iv (fun _ => False) w (.slice A3 n3 c3) zs) :
    Calls Tryd.prog 18 #[.agg #[.int .i64 fr, .slice A n cP], .slice A3 n3 c3] w fun r w' => ∃ v', r = .returned (.tuple #[.agg #[.int .i64 fr, v'], .int .i64 (keep9 st zs).2]) ∧ Rd9 S w' v' (il9 (keep9 st zs).1) ∧ Turn (fun _ => False) w w' := by
  obtain ⟨A', c', e, hr⟩ := hz
  by_cases h0 : n3 = 0
  · subst h0
    obtain rfl : zs = [] := List.eq_nil_of_length_eq_zero hn
    rw [keep9_nil]
    exact (keep_d0 hS h fr A3 c3).mono fun e w' ⟨h1, h2, h3⟩ => ⟨_, h1, h2, h3⟩
  · obtain ⟨b, o, hA, h1, _, h3⟩ := hr (by omega)
    injection e with e1 _ e3
    subst hA e1
    exact keep_d hS h hl fr b o n3 c3 zs hn hn2 (fun j z hj => ⟨h1, h3 j z hj⟩)
end Go.Proofs.YtmedljnbcpdoeaaDoor
