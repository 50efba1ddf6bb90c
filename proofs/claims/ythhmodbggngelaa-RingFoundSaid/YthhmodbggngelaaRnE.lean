/- Layer 6: Records. -/
import Derived.Test.YthhmodbggngelaaRnD
import Derived.Test.YthhmodbggngelaaBlkP
import Derived.Test.YthhmodbggngelaaSltJ
namespace Go.Proofs.Ythhmodbggngelaa
open Go.RowKit Go.Maps
set_option linter.unusedVariables false
set_option maxRecDepth 100000

theorem clone_recs (v : Value) (n : Nat) (hn2 : n ≤ 1000000) (xs : List Value) (w : World) (h1 : ∀ u ∈ xs, u.oneCell' = true) (h : w.ownsRow 0 70 3 v n xs) :
    Calls Try.prog 31 #[v] w fun e w' => ∃ v', e = .returned v' ∧ w'.ownsRow w.heap.size 70 3 v' n xs ∧ Turn (fun _ => False) w w' := by
  have hh0 := h
  obtain ⟨hx, ⟨rfl, h0⟩ | ⟨g, c, cur, rfl, hB, hh, hnc, hm, hs, ht⟩⟩ := h
  · have heq := fun w => Lib.run_eql_slice_nil (P := Try.prog) w 35 70 none 0 0 0 0 Try.underlying35
    go_enter Try.func31, Try.ntmps31
    go_wp2
    go_ret
    exact ⟨_, rfl, ⟨hx, .inl ⟨rfl, h0⟩⟩, Turn.refl _ _⟩
  · obtain ⟨i, hi, hz, hsz, hb⟩ := info_parts Try.infoRecord
    have HI := Lib.hid hi
    have HZ := Lib.hid hz
    have HS := Lib.hid hsz
    have HB := Lib.hid hb
    have HN := Lib.hid (own_news5 hh0 ((Below.refl w.heap.size w).alloc (Nat.le_refl _) (.cells #[] 70)) (Array.getElem?_eq_some_iff.1 hh).1)
    have HX := Lib.hid hx
    have heq := fun w => Lib.run_eql_slice_nil (P := Try.prog) w 35 70 (some ⟨g, 0, none⟩) n c 0 0 Try.underlying35
    clear hi hz hsz hb hh0 hh ht hs hB hnc hx
    go_enter Try.func31, Try.ntmps31
    go_wp2_with (at_builtin; refine wpList_append_own_at _ rfl _ _ 35 rfl w.heap.size 70 i _ 3 32 Try.underlying35 HI.out HZ.out HS.out HB.out (by rfl) (by decide) (.slice (some ⟨w.heap.size, 0, none⟩) 0 0) 0 [] rfl own_new ⟨g, 0, none⟩ n c xs rfl HX.out HN.out h1 (by unfold maxLen; omega) (by omega) (by simp) ?_; intro v5 w5 ho5 hg5 hv5 hl5)
    go_wp2
    go_ret
    simp only [Nat.zero_add, List.nil_append] at ho5
    refine ⟨_, rfl, ho5, ?_⟩
    have t1 : Turn (fun _ => False) w (w.alloc (.cells #[] 70)) := (Turn.refl _ _).alloc _
    exact t1.trans_new (T := fun k => w.heap.size = k) ⟨hg5.os, hg5.tape, hg5.output, hg5.size, fun k hk hne => hg5.block k hk (fun e => hne (by simp [Value.ownBlock] at e; exact e.symm))⟩ (fun k hk e => by omega)
theorem clone_rw6 (v : Value) (L : List Rc) (hn2 : L.length ≤ 1000000) (w : World) (h1 : ∀ u ∈ L.flatMap rcells, u.oneCell' = true) (h : Rw6 w v L) :
    Calls Try.prog 31 #[v] w fun e w' => ∃ v', e = .returned v' ∧ w'.ownsRow w.heap.size 70 3 v' L.length (L.flatMap rcells) ∧ Turn (fun _ => False) w w' := by
  rcases h with h | ⟨rfl, g, cur, rfl, hh⟩
  · exact clone_recs v L.length hn2 _ w h1 h
  · obtain ⟨i, hi, hz, hsz, hb⟩ := info_parts Try.infoRecord
    have HI := Lib.hid hi
    have HZ := Lib.hid hz
    have HS := Lib.hid hsz
    have HB := Lib.hid hb
    have heq := fun w => Lib.run_eql_slice_nil (P := Try.prog) w 35 70 (some ⟨g, 0, none⟩) 0 0 0 0 Try.underlying35
    clear hi hz hsz hb hh h1 hn2
    go_enter Try.func31, Try.ntmps31
    go_wp2_with (at_builtin; refine wpList_append_own_at _ rfl _ _ 35 rfl w.heap.size 70 i _ 3 32 Try.underlying35 HI.out HZ.out HS.out HB.out (by rfl) (by decide) (.slice (some ⟨w.heap.size, 0, none⟩) 0 0) 0 [] rfl own_new ⟨g, 0, none⟩ 0 0 [] rfl rfl (fun j u hj => by cases hj) (fun u hu => by cases hu) (by unfold maxLen; omega) (by omega) (by simp) ?_; intro v5 w5 ho5 hg5 hv5 hl5)
    go_wp2
    go_ret
    simp only [Nat.zero_add, List.nil_append] at ho5
    refine ⟨_, rfl, ho5, ?_⟩
    have t1 : Turn (fun _ => False) w (w.alloc (.cells #[] 70)) := (Turn.refl _ _).alloc _
    exact t1.trans_new (T := fun k => w.heap.size = k) ⟨hg5.os, hg5.tape, hg5.output, hg5.size, fun k hk hne => hg5.block k hk (fun e => hne (by simp [Value.ownBlock] at e; exact e.symm))⟩ (fun k hk e => by omega)
theorem one_rcells (L : List Rc) : ∀ u ∈ L.flatMap rcells, u.oneCell' = true := by
  intro u hu
  obtain ⟨s, _, h⟩ := List.mem_flatMap.1 hu
  simp only [rcells, List.mem_cons, List.not_mem_nil, or_false] at h
  rcases h with rfl | rfl | rfl <;> rfl
theorem flat_at3_ (l : List Rc) (j i : Nat) (s : Rc) (hs : l[j]? = some s) (hi : i < 3) : (l.flatMap rcells)[j * 3 + i]? = (rcells s)[i]? := by
  induction l generalizing j with
  | nil => simp at hs
  | cons x l ih =>
    rw [List.flatMap_cons]
    cases j with
    | zero =>
      simp only [List.getElem?_cons_zero, Option.some.injEq] at hs
      subst hs
      rw [List.getElem?_append_left (by simp [rcells]; omega)]
      simp
    | succ j =>
      simp only [List.getElem?_cons_succ] at hs
      rw [List.getElem?_append_right (by simp [rcells]; omega), ← ih j hs]
      congr 1
      simp [rcells]; omega
theorem set_same {α : Type} : ∀ (l : List α) (i : Nat) (u : α), l[i]? = some u → l.set i u = l
  | [], _, _, h => by cases h
  | x :: l, 0, u, h => by simp only [List.getElem?_cons_zero, Option.some.injEq] at h; rw [List.set_cons_zero, h]
  | x :: l, i + 1, u, h => by simp only [List.getElem?_cons_succ] at h; rw [List.set_cons_succ, set_same l i u h]
/-- An own row in which a cell is written as it was. -/
theorem own_same5 {w : World} {base e size n b c i : Nat} {u : Value} {xs : List Value} (h : w.ownsRow base e size (.slice (some ⟨b, 0, none⟩) n c) n xs) (hu : w.cell? ⟨b, i, none⟩ = some u) : (w.setCell ⟨b, i, none⟩ u).ownsRow base e size (.slice (some ⟨b, 0, none⟩) n c) n xs := by
  refine ⟨h.1, ?_⟩
  rcases h.2 with ⟨h1, _⟩ | ⟨g, cap, cur, h1, hb, hh, h2, h3, h4, h5⟩
  · cases h1
  · have h1' := h1
    injection h1 with h1 _ _
    injection h1 with h1
    injection h1 with h1 _
    subst h1
    have hB : Blk w b e cur.toList := by unfold Blk; simpa using hh
    have hp := hB.put i u
    rw [hB.cell] at hu
    rw [set_same _ _ _ hu] at hp
    refine .inr ⟨b, cap, cur, h1', hb, ?_, h2, h3, h4, h5⟩
    unfold Blk at hp
    simpa using hp
set_option maxHeartbeats 2000000 in
theorem ringRecords {S : Nat → Prop} {vR : Value} {w : World} {p d f c s n e : Nat} {L : List Rc} {D : Dsk} (h : RD S vR w p d f c s n e L D) (hL : L.length ≤ 1000000) (hd : ∀ x ∈ L, x.d.size ≤ 281474976710656) :
    Calls Try.prog 12 #[.pointer (some ⟨p, 0, none⟩)] w fun r w' => ∃ v', r = .returned v' ∧ w'.ownsRow w.heap.size 70 3 v' L.length (L.flatMap rcells) ∧ Turn (fun _ => False) w w' := by
  have HM := Lib.hid (ringMade p d f c s n e vR w h.blk)
  have HC := Lib.hid (clone_rw6 vR L hL w (one_rcells L) h.row)
  have x6 := h.blk.cell 6
  simp only [List.getElem?_cons_zero, List.getElem?_cons_succ] at x6
  have HD := Lib.hid hd
  clear h hd
  obtain ⟨k, hk⟩ : ∃ k, L.length = k := ⟨_, rfl⟩
  have HK := Lib.hid hk
  rw [hk] at hL HC ⊢
  clear hk
  go_enter Try.func12, Try.ntmps12
  go_wp2_with (go_at_call 25; refine HM.out.mono ?_; rintro r w0 ⟨rfl, rfl⟩)
  refine HC.out.mono ?_
  rintro r w1 ⟨v1, rfl, o1, t1⟩
  obtain ⟨A1, c1, rfl⟩ : ∃ A1 c1, v1 = .slice A1 k c1 := by
    rcases o1.2 with ⟨h1, h2⟩ | ⟨g3, cap3, cur3, h1, _⟩
    · exact ⟨none, 0, by rw [h1, h2]⟩
    · exact ⟨_, _, h1⟩
  have O1 := Lib.hid o1
  have T1 := Lib.hid t1
  clear o1 t1 x6
  go_wp2_with fail
  go_loopw [15] (fun vi wr => ∃ (j : Nat), j ≤ k ∧ vi = .int .i64 j ∧ wr.ownsRow w0.heap.size 70 3 (.slice A1 k c1) k (L.flatMap rcells) ∧ Turn (fun _ => False) w0 wr) (fun vi _ => k - (intOf vi).toNat)
  case atStart => exact ⟨0, Nat.zero_le _, rfl, O1.out, T1.out⟩
  case round =>
    obtain ⟨j, hj, rfl, oj, tj⟩ := hrel
    have OJ := Lib.hid oj
    have TJ := Lib.hid tj
    clear oj tj
    by_cases hlt : j < k
    · obtain ⟨g1, d1, hv1, hg1, hlt1, _⟩ := own_form5 OJ.out (by omega)
      injection hv1 with hv1 hv2 hv3
      clear hv2 hv3
      subst hv1
      obtain ⟨x, hx⟩ : ∃ x, L[j]? = some x := ⟨_, List.getElem?_eq_getElem (by rw [HK.out]; omega)⟩
      have hxd := HD.out x (List.mem_of_getElem? hx)
      have hfl := flat_at3_ L j 2 x hx (by decide)
      have x0 := own_news5 OJ.out (Below.refl wr.heap.size wr) hlt1 (j * 3 + 2) (.string x.d) hfl
      rw [Addr.add_mid, Nat.zero_add] at x0
      have HS := Lib.hid (fun W => clone5 x.d W hxd)
      have hi1 : (j : Int) < (k : Int) := by omega
      have hi2 : (0 : Int) ≤ (j : Int) := by omega
      have z3 := wrap_of ((j : Int) + 1) (by omega) (by omega)
      clear hfl hx
      go_wp2_with fail
      refine (HS.out _).mono ?_
      rintro r w2 ⟨v2, rfl, rfl, t2⟩
      have T2 := Lib.hid t2
      have O2 := Lib.hid (World.ownsRow.turn5 OJ.out t2 (fun _ _ h => h))
      have y0 : w2.cell? ⟨g1, j * 3 + 2, none⟩ = some (.string x.d) := by
        obtain ⟨rest, hB⟩ : ∃ cs, Blk wr g1 70 cs := by
          rcases OJ.out.2 with ⟨h1, _⟩ | ⟨g, cap, cur, h1, hb, hh, _⟩
          · cases h1
          · injection h1 with h1 _ _
            injection h1 with h1
            injection h1 with h1 _
            subst h1
            exact ⟨cur.toList, by unfold Blk; simpa using hh⟩
        rw [(hB.turn t2 (fun h => h)).cell, ← hB.cell]; exact x0
      have y1 : w2.frozen? ⟨g1, j * 3 + 2, none⟩ = false := by
        rcases O2.out.2 with ⟨h1, _⟩ | ⟨g, cap, cur, h1, hb, hh, _⟩
        · cases h1
        · injection h1 with h1 _ _
          injection h1 with h1
          injection h1 with h1 _
          subst h1
          have hB : Blk w2 g1 70 cur.toList := by unfold Blk; simpa using hh
          exact hB.free _
      have O3 := Lib.hid (own_same5 O2.out y0)
      have T3 := Lib.hid ((TJ.out.trans t2).setCell (p := ⟨g1, j * 3 + 2, none⟩) (.inr hg1) (.string x.d))
      clear t2 x0
      go_wp2_with fail
      go_roundw
      case rel => exact ⟨j + 1, hlt, by simp, O3.out, T3.out⟩
      case measure => simp [intOf]; omega
    · obtain rfl : j = k := by omega
      go_wp2_with fail
      go_ret
      exact ⟨_, rfl, OJ.out, TJ.out⟩
end Go.Proofs.Ythhmodbggngelaa
/- Layer 6: Truncate at next. -/
namespace Go.Proofs.Ythhmodbggngelaa
open Go.RowKit
set_option linter.unusedVariables false
set_option maxRecDepth 100000

theorem ringAhead_next (p d : Nat) (f c s n e : Int) (A : Option Addr) (k cc : Nat) (w : World) (h : RgB w p d f c s n e (.slice A k cc)) :
    Calls Try.prog 33 #[.pointer (some ⟨p, 0, none⟩), .int .i64 n] w fun r w' => r = .returned (.tuple #[.int .i64 k, .bool true]) ∧ w' = w := by
  have x4 := h.cell 4
  have x6 := h.cell 6
  simp only [List.getElem?_cons_zero, List.getElem?_cons_succ] at x4 x6
  have e0 : (n == n) = true := by simp
  clear h
  go_enter Try.func33, Try.ntmps33
  go_wp2
  go_ret2
  exact ⟨rfl, rfl⟩
theorem ringTruncate_next (p d : Nat) (f c s n e : Int) (A : Option Addr) (k cc : Nat) (hk : k ≤ cc) (hcc : cc ≤ maxLen) (w : World) (h : RgB w p d f c s n e (.slice A k cc)) :
    Calls Try.prog 17 #[.pointer (some ⟨p, 0, none⟩), .int .i64 n] w fun r w' => r = .returned (.int .i64 0) ∧ RgB w' p d f c n n e (.slice A 0 0) ∧ Turn (fun b => b = p) w w' := by
  have HM := Lib.hid (ringMade p d f c s n e _ w h)
  have HA := Lib.hid (ringAhead_next p d f c s n e A k cc w h)
  have HB := Lib.hid h
  have x6 := h.cell 6
  have x3 := h.cell 3
  have f6 := h.free 6
  have f3 := h.free 3
  simp only [List.getElem?_cons_zero, List.getElem?_cons_succ] at x3 x6
  have hki : (k : Int) ≤ (cc : Int) := by omega
  clear h
  go_enter Try.func17, Try.ntmps17
  go_wp2_with (first
    | (go_at_call 25; refine HM.out.mono ?_; rintro r w0 ⟨rfl, rfl⟩)
    | (go_at_call 33; refine HA.out.mono ?_; rintro r w0 ⟨rfl, rfl⟩))
  go_ret
  exact ⟨rfl, (HB.out.put 6 _).put 3 _, ((Turn.refl (fun b => b = p) w0).setCell (p := ⟨p, 6, none⟩) (.inl rfl) _).setCell (p := ⟨p, 3, none⟩) (.inl rfl) _⟩
/-- All records are let go. -/
theorem RD.trunc {S : Nat → Prop} {vR : Value} {w : World} {p d f c s n e : Nat} {L : List Rc} {D : Dsk} (h : RD S vR w p d f c s n e L D) :
    Calls Try.prog 17 #[.pointer (some ⟨p, 0, none⟩), .int .i64 n] w fun r w' => r = .returned (.int .i64 0) ∧ ∃ vR', RD S vR' w' p d f c n n e [] D ∧ Stp (Rk S p vR) w (Rk S p vR') w' := by
  obtain ⟨A, k, cc, rfl, hk, hcc⟩ : ∃ A k cc, vR = .slice A k cc ∧ k ≤ cc ∧ cc ≤ maxLen := by
    rcases h.row with h1 | ⟨_, g, cur, h2, _⟩
    · rcases h1.2 with ⟨h2, _⟩ | ⟨g, cap, cur, h2, _, _, h3, h4, _⟩
      · exact ⟨_, _, _, h2, Nat.le_refl _, Nat.zero_le _⟩
      · exact ⟨_, _, _, h2, h3, h4⟩
    · exact ⟨_, _, _, h2, Nat.le_refl _, Nat.zero_le _⟩
  refine (ringTruncate_next p d f c s n e A k cc hk hcc w h.blk).mono ?_
  rintro r w' ⟨rfl, hb, ht⟩
  have hp := h.row.blk h.blk (by decide)
  have ho : (Value.slice A 0 0).ownBlock = (Value.slice A k cc).ownBlock := by cases A <;> rfl
  refine ⟨rfl, .slice A 0 0, ⟨h.disk.turn ht (fun k hk e => by subst e; exact h.sp hk), hb, ?_, h.sp, fun k hk => h.sv k (ho ▸ hk)⟩, ht.mono (fun k _ hk => .inr (.inl hk)), fun k hk => ?_⟩
  · have hr := h.row.turn ht (fun k hk e => hp (e ▸ hk))
    rcases hr with h1 | ⟨_, g, cur, h2, h3⟩
    · rcases h1.2 with ⟨h2, _⟩ | ⟨g, cap, cur, h2, _, h3, _⟩
      · injection h2 with h2; subst h2; exact .inl ⟨rfl, .inl ⟨rfl, rfl⟩⟩
      · injection h2 with h2; subst h2; exact .inr ⟨rfl, g, cur, rfl, h3⟩
    · injection h2 with h2; subst h2; exact .inr ⟨rfl, g, cur, rfl, h3⟩
  · rcases hk with h1 | h1 | h1
    · exact .inl (.inl h1)
    · exact .inl (.inr (.inl h1))
    · exact .inl (.inr (.inr (ho ▸ h1)))
end Go.Proofs.Ythhmodbggngelaa
