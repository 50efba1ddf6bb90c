/- Layer 6: Open. -/
import Derived.Test.YthhmodbggngelaaRnH
import Derived.Test.YthhmodbggngelaaSltR
import Derived.Test.YthhmodbggngelaaSltS
namespace Go.Proofs.Ythhmodbggngelaa
open Go.RowKit
set_option linter.unusedVariables false
set_option maxRecDepth 100000

theorem lk5_ok (q : Nat) (e : Int) (l : List (Nat × St)) (hl : ∀ x ∈ l, r5 x.2 = true) :
    (∀ (i : Nat) (s : St), (lk5 q e l).l[i]? = some s → s.q = (q : Int) + i ∧ r5 s = true) ∧ e ≤ (lk5 q e l).most ∧ (lk5 q e l).most ≤ max e 2147483647 := by
  induction l using snoc_ind with
  | h0 => exact ⟨fun i s h => (by cases h), Int.le_refl _, (by show e ≤ _; omega)⟩
  | h1 l x ih =>
    obtain ⟨h1, h2, h3⟩ := ih (fun y hy => hl y (List.mem_append_left _ hy))
    have hx := r5_yes (hl x (by simp))
    rw [lk5_snoc]
    unfold Lk.step
    split
    · rename_i hc
      refine ⟨fun i s hs => ?_, ?_, ?_⟩
      · simp only at hs
        by_cases hi : i < (lk5 q e l).l.length
        · rw [List.getElem?_append_left hi] at hs
          exact h1 i s hs
        · rw [List.getElem?_append_right (by omega)] at hs
          obtain ⟨k, hk⟩ : ∃ k, i - (lk5 q e l).l.length = k := ⟨_, rfl⟩
          rw [hk] at hs
          cases k with
          | zero =>
            injection hs with hs
            subst hs
            exact ⟨by omega, hl x (by simp)⟩
          | succ k => cases hs
      · show e ≤ max (lk5 q e l).most x.2.e; omega
      · show max (lk5 q e l).most x.2.e ≤ _; omega
    · exact ⟨h1, by show e ≤ max (lk5 q e l).most x.2.e; omega, by show max (lk5 q e l).most x.2.e ≤ _; omega⟩
theorem slots5_ok (D : Dsk) (f c q k : Nat) : ∀ x ∈ slots5 D f c q k, r5 x.2 = true := by
  induction k with
  | zero => intro x hx; cases hx
  | succ k ih =>
    intro x hx
    rw [slots5, List.mem_append] at hx
    rcases hx with hx | hx
    · exact ih x hx
    · cases h : at5 D f c (q + k) with
      | none => rw [h] at hx; cases hx
      | some s =>
        rw [h] at hx
        simp only [List.mem_singleton] at hx
        subst hx
        exact read5_right h
theorem jn5_pos : ∀ (R : List St) (rs : List Rc) (d : List UInt8) (nx : Int) (op : Bool), (∀ s ∈ R, r5 s = true) → 0 ≤ nx → 0 ≤ (jn5 R rs d nx op).2
  | [], _, _, _, _, _, h => h
  | s :: l, rs, d, nx, op, hr, h => by
    have hs := r5_yes (hr s (by simp))
    have hw : 0 ≤ wrap64 (s.q + 1) := by unfold wrap64; omega
    unfold jn5
    split
    · exact h
    · split
      · exact jn5_pos l _ _ _ _ (fun x hx => hr x (by simp [hx])) hw
      · exact jn5_pos l _ _ _ _ (fun x hx => hr x (by simp [hx])) h
/-- What Open finds: the slots that look takes. -/
def fnd (D : Dsk) (f c q : Nat) (e : Int) : List St := (lk5 q e (slots5 D f c q c)).l
def top5 (D : Dsk) (f c q : Nat) (e : Int) : Int := (lk5 q e (slots5 D f c q c)).most
theorem fnd_ok (D : Dsk) (f c q : Nat) (e : Int) : ∀ (i : Nat) (s : St), (fnd D f c q e)[i]? = some s → s.q = (q : Int) + i ∧ r5 s = true := (lk5_ok q e _ (slots5_ok D f c q c)).1
theorem top_ok (D : Dsk) (f c q : Nat) (e : Int) : e ≤ top5 D f c q e ∧ top5 D f c q e ≤ max e 2147483647 := (lk5_ok q e _ (slots5_ok D f c q c)).2
theorem len_fnd (D : Dsk) (f c q : Nat) (e : Int) : (fnd D f c q e).length ≤ c := Nat.le_trans (len_lk q e _) (len_slots5 D f c q c)
/-- What is found, behind the join of the first k slots. -/
structure Opn (D : Dsk) (f c q : Nat) (e : Int) (L : List Rc) (n E : Nat) : Prop where
  most : (E : Int) = top5 D f c q e + 1
  join : ∃ k, k ≤ (fnd D f c q e).length ∧ (∀ i, i < k → adv5 (fnd D f c q e) i = true) ∧ adv5 (fnd D f c q e) k = false ∧ jn5 ((fnd D f c q e).take k) [] [] q false = (L, (n : Int))
/-- A ring that is new, behind the stores of its records and next. -/
theorem rd_new {S : Nat → Prop} {w w3 w5 : World} {d : Nat} {D : Dsk} {f c q n E : Nat} {L : List Rc} {v : Value} (hd : Dq S w d D) (t3 : Turn (fun _ => False) w w3)
    (o5 : w5.ownsRow (w3.alloc (.cells #[.pointer (some ⟨d, 0, none⟩), .int .i64 f, .int .i64 c, .int .i64 q, .int .i64 q, .int .i64 E, .slice none 0 0] 45)).heap.size 70 3 v L.length (L.flatMap rcells))
    (hb : Below (w3.alloc (.cells #[.pointer (some ⟨d, 0, none⟩), .int .i64 f, .int .i64 c, .int .i64 q, .int .i64 q, .int .i64 E, .slice none 0 0] 45)).heap.size (w3.alloc (.cells #[.pointer (some ⟨d, 0, none⟩), .int .i64 f, .int .i64 c, .int .i64 q, .int .i64 q, .int .i64 E, .slice none 0 0] 45)) w5) :
    RD S v ((w5.setCell ⟨w3.heap.size, 6, none⟩ v).setCell ⟨w3.heap.size, 4, none⟩ (.int .i64 n)) w3.heap.size d f c q n E L D ∧ w.heap.size ≤ w3.heap.size ∧ (∀ k, v.ownBlock = some k → w.heap.size ≤ k) ∧ Turn (fun _ => False) w ((w5.setCell ⟨w3.heap.size, 6, none⟩ v).setCell ⟨w3.heap.size, 4, none⟩ (.int .i64 n)) := by
  have hsz := t3.size
  have hlt := hd.lt
  have hbase := World.ownsRow.base5 o5
  have hs4 : (w3.alloc (.cells #[.pointer (some ⟨d, 0, none⟩), .int .i64 f, .int .i64 c, .int .i64 q, .int .i64 q, .int .i64 E, .slice none 0 0] 45)).heap.size = w3.heap.size + 1 := by rw [World.size_alloc]
  have RB : RgB w5 w3.heap.size d f c q q E (.slice none 0 0) := (Blk.new w3 45 [.pointer (some ⟨d, 0, none⟩), .int .i64 f, .int .i64 c, .int .i64 q, .int .i64 q, .int .i64 E, .slice none 0 0]).below hb (by omega)
  have t5 : Turn (fun _ => False) w w5 := (t3.alloc _).trans (Turn.of_below (S := fun _ => False) hb (fun k h1 h2 => by omega))
  have tp : Turn (fun k => k = w3.heap.size) w5 ((w5.setCell ⟨w3.heap.size, 6, none⟩ v).setCell ⟨w3.heap.size, 4, none⟩ (.int .i64 n)) := ((Turn.refl (fun k => k = w3.heap.size) w5).setCell (p := ⟨w3.heap.size, 6, none⟩) (.inl rfl) v).setCell (p := ⟨w3.heap.size, 4, none⟩) (.inl rfl) _
  have t6 : Turn (fun _ => False) w ((w5.setCell ⟨w3.heap.size, 6, none⟩ v).setCell ⟨w3.heap.size, 4, none⟩ (.int .i64 n)) := t5.trans_new tp (fun k hk h => by omega)
  refine ⟨⟨hd.still t6, (RB.put 6 v).put 4 _, ?_, fun h => ?_, fun k hk h => ?_⟩, hsz, fun k hk => ?_, t6⟩
  · exact .inl (own_low5 (World.ownsRow.turn5 o5 tp (fun k hk h => by have := hbase k hk; omega)) (Nat.zero_le _))
  · have := hlt _ h; omega
  · have := hbase k hk; have := hlt _ h; omega
  · have := hbase k hk; omega
set_option maxHeartbeats 2000000 in
theorem open_any {S : Nat → Prop} {w : World} {d : Nat} {D : Dsk} (hd : Dq S w d D) (hdead : D.dead = false) (f c q : Nat) (hf : f + c ≤ D.kept.length) (hc0 : 2 ≤ c) (hc : c ≤ 16384) (hq : q ≤ 1152921504606846976) (e : Int) (he : 0 ≤ e ∧ e < 2147483647) (hm : top5 D f c q e < 2147483647) :
    Calls Try.prog 8 #[.pointer (some ⟨d, 0, none⟩), .int .i64 f, .int .i64 c, .int .i64 q, .int .i64 e] w fun r w' => ∃ p vR L n E, r = .returned (.tuple #[.pointer (some ⟨p, 0, none⟩), .int .i64 0]) ∧ Opn D f c q e L n E ∧ RD S vR w' p d f c q n E L D ∧
      w.heap.size ≤ p ∧ (∀ k, vR.ownBlock = some k → w.heap.size ≤ k) ∧ Turn (fun _ => False) w w' := by
  have HDQ := Lib.hid hd
  have hdl := Lib.hid hd.lt
  have hmost := hd.1.most
  have HC : Hid (∀ W, Turn (fun _ => False) w W → Calls Try.prog 21 #[.agg #[.pointer (some ⟨d, 0, none⟩), .int .i64 f, .int .i64 c]] W fun r w' => r = .returned (.int .i64 0) ∧ w' = W.alloc (.cells #[.pointer (some ⟨d, 0, none⟩), .int .i64 f, .int .i64 c] 43)) := Lib.hid (fun W ht => by
    have h := regionCheck S d D f c (by omega) W (hd.still ht)
    rw [show chk (f : Int) (c : Int) D.kept.length = 0 from by unfold chk; rw [if_neg (by omega)]] at h
    exact h)
  have HDD : Hid (∀ W, Turn (fun _ => False) w W → Calls Try.prog 22 #[.pointer (some ⟨d, 0, none⟩)] W fun r w' => r = .returned (.bool false) ∧ W = w') := Lib.hid (fun W ht => by
    have h := dead_dq (hd.still ht)
    rw [hdead] at h
    exact h)
  have HL : Hid (∀ W, Turn (fun _ => False) w W → Calls Try.prog 23 #[.agg #[.pointer (some ⟨d, 0, none⟩), .int .i64 f, .int .i64 c], .int .i64 q, .int .i64 e] W fun r w' => ∃ v, r = .returned (.tuple #[v, .int .i64 (top5 D f c q e)]) ∧ w'.ownsRow W.heap.size 81 5 v (fnd D f c q e).length ((fnd D f c q e).flatMap scells) ∧ Turn (fun _ => False) W w') := Lib.hid (fun W ht => look_any S d D hdead f c q hf (by omega) hc hq e W (hd.still ht))
  have HFK := Lib.hid (fnd_ok D f c q e)
  have hlen := len_fnd D f c q e
  have htop := top_ok D f c q e
  have HOP : Hid (∀ L (n : Nat), (∃ k, k ≤ (fnd D f c q e).length ∧ (∀ i, i < k → adv5 (fnd D f c q e) i = true) ∧ adv5 (fnd D f c q e) k = false ∧ jn5 ((fnd D f c q e).take k) [] [] q false = (L, (n : Int))) → Opn D f c q e L n (top5 D f c q e + 1).toNat) := Lib.hid (fun L n h => ⟨by omega, h⟩)
  generalize fnd D f c q e = R at *
  generalize top5 D f c q e = tp at *
  obtain ⟨E, hE⟩ : ∃ E : Nat, (E : Int) = tp + 1 := ⟨(tp + 1).toNat, by omega⟩
  have hE2 : (tp + 1).toNat = E := by omega
  rw [hE2] at HOP
  have e0 := (wrap_of (tp + 1) (by omega) (by omega)).trans hE.symm
  have q0 : ¬ (q : Int) < 0 := by omega
  have q1 : ¬ (1152921504606846976 : Int) < q := by omega
  have q2 : ¬ e < 0 := by omega
  have q3 : ¬ (2147483647 : Int) ≤ e := by omega
  have q4 : (tp == 2147483647) = false := by simp; omega
  clear hd hdead
  go_enter Try.func8, Try.ntmps8
  have TA := Lib.hid ((Turn.refl (fun _ => False) w).alloc (.cells #[.pointer (some ⟨d, 0, none⟩), .int .i64 f, .int .i64 c] 43))
  have GA := Lib.hid (Blk.new w 43 [.pointer (some ⟨d, 0, none⟩), .int .i64 f, .int .i64 c])
  go_wp2_with fail
  refine (HC.out _ TA.out).mono ?_
  rintro r w1 ⟨rfl, rfl⟩
  have TB := Lib.hid (TA.out.alloc (.cells #[.pointer (some ⟨d, 0, none⟩), .int .i64 f, .int .i64 c] 43))
  have GB := Lib.hid (GA.out.alloc (.cells #[.pointer (some ⟨d, 0, none⟩), .int .i64 f, .int .i64 c] 43))
  go_wp2_with fail
  refine (HDD.out _ TB.out).mono ?_
  rintro r w2 ⟨rfl, rfl⟩
  go_wp2_with fail
  refine (HL.out _ TB.out).mono ?_
  rintro r w3 ⟨v, rfl, o3, t3⟩
  obtain ⟨A3, n3, c3, rfl⟩ : ∃ A n cc, v = .slice A n cc := by
    rcases o3.2 with ⟨h1, _⟩ | ⟨b, cc, cur, h1, _⟩
    · exact ⟨_, _, _, h1⟩
    · exact ⟨_, _, _, h1⟩
  have hn3 : n3 = R.length ∧ R.length ≤ c3 := by
    rcases o3.2 with ⟨h1, h2⟩ | ⟨b, cc, cur, h1, _, _, h2, _⟩
    · injection h1 with _ h3 h4; omega
    · injection h1 with _ h3 h4; omega
  obtain ⟨rfl, hc3⟩ := hn3
  have TC := Lib.hid (TB.out.trans t3)
  have GC := Lib.hid (GB.out.turn t3 (fun h => h))
  have O3 := Lib.hid o3
  clear o3 t3
  have x0 := GC.out.cell 0
  have x1 := GC.out.cell 1
  have x2 := GC.out.cell 2
  simp only [List.getElem?_cons_zero, List.getElem?_cons_succ] at x0 x1 x2
  have RB := Lib.hid (Blk.new w3 45 [.pointer (some ⟨d, 0, none⟩), .int .i64 f, .int .i64 c, .int .i64 q, .int .i64 q, .int .i64 E, .slice none 0 0])
  have TD := Lib.hid (TC.out.alloc (.cells #[.pointer (some ⟨d, 0, none⟩), .int .i64 f, .int .i64 c, .int .i64 q, .int .i64 q, .int .i64 E, .slice none 0 0] 45))
  have hsz : w.heap.size ≤ w3.heap.size := TC.out.size
  by_cases h0 : R.length = 0
  · have hR : R = [] := List.eq_nil_of_length_eq_zero h0
    subst hR
    simp only [List.length_nil] at *
    have HRD : Hid (RD S (.slice none 0 0) (w3.alloc (.cells #[.pointer (some ⟨d, 0, none⟩), .int .i64 f, .int .i64 c, .int .i64 q, .int .i64 q, .int .i64 E, .slice none 0 0] 45)) w3.heap.size d f c q q E [] D) := Lib.hid ⟨HDQ.out.still TD.out, RB.out, .inl ⟨rfl, .inl ⟨rfl, rfl⟩⟩, fun h => (by have := hdl.out _ h; omega), fun k hk => by simp [Value.ownBlock] at hk⟩
    have HO := Lib.hid (HOP.out [] q ⟨0, Nat.le_refl _, fun i hi => absurd hi (by omega), rfl, rfl⟩)
    go_wp2_with fail
    go_ret2
    rw [← hE]
    exact ⟨w3.heap.size, .slice none 0 0, [], q, E, rfl, HO.out, HRD.out, hsz, fun k hk => by simp [Value.ownBlock] at hk, TD.out⟩
  · have h01 : (0 : Int) < (R.length : Int) := by omega
    obtain ⟨s0, hs0⟩ : ∃ s0, R[0]? = some s0 := ⟨R[0]'(by omega), by rw [List.getElem?_eq_getElem]⟩
    have hs1 := HFK.out 0 s0 hs0
    have hA0 : adv5 R 0 = true := by
      unfold adv5
      rw [hs0]
      simp only [hs1.2, Bool.and_true]
    have hq0 : s0.q = (q : Int) := by have := hs1.1; omega
    have HJ := Lib.hid (join5_some R (by omega) A3 c3 hc3 (w3.alloc (.cells #[.pointer (some ⟨d, 0, none⟩), .int .i64 f, .int .i64 c, .int .i64 q, .int .i64 q, .int .i64 E, .slice none 0 0] 45)) ((Row5.own O3.out rfl).below ((Below.refl _ w3).alloc (Nat.le_refl _) _) (Nat.le_refl _)) s0 hs0 hA0)
    clear hs0 hA0 hs1
    go_wp2_with fail
    rw [← hE]
    refine HJ.out.mono ?_
    rintro r w5 ⟨k, J, hk0, hkR, hka, hkb, hJ, v5, rfl, o5, hb5⟩
    rw [hq0] at hJ
    have hJ2 := jn5_pos (R.take k) [] [] q false (fun s hs => by
      obtain ⟨i, hi, rfl⟩ := List.getElem_of_mem (List.mem_of_mem_take hs)
      exact (HFK.out i _ (List.getElem?_eq_getElem hi)).2) (by omega)
    obtain ⟨L, nI⟩ := J
    rw [← hJ] at hJ2
    obtain ⟨n, rfl⟩ : ∃ n : Nat, nI = n := ⟨nI.toNat, by simp only at hJ2; omega⟩
    have HO := Lib.hid (HOP.out L n ⟨k, hkR, hka, hkb, hJ.symm⟩)
    obtain ⟨A5, n5, c5, rfl⟩ : ∃ A n cc, v5 = .slice A n cc := by
      rcases o5.2 with ⟨h1, _⟩ | ⟨b, cc, cur, h1, _⟩
      · exact ⟨_, _, _, h1⟩
      · exact ⟨_, _, _, h1⟩
    have HRD := Lib.hid (rd_new (n := n) (E := E) (L := L) (v := .slice A5 n5 c5) HDQ.out TC.out o5 hb5)
    have RB5 := Lib.hid (RB.out.below hb5 (by rw [World.size_alloc]; omega))
    clear hJ hJ2 hka hkb o5 hb5
    simp only
    have y4 := RB5.out.cell 4
    have y6 := RB5.out.cell 6
    have z4 := RB5.out.free 4
    have z6 := RB5.out.free 6
    simp only [List.getElem?_cons_zero, List.getElem?_cons_succ] at y4 y6
    go_wp2_with fail
    go_ret2
    exact ⟨w3.heap.size, .slice A5 n5 c5, L, n, E, rfl, HO.out, HRD.out⟩
end Go.Proofs.Ythhmodbggngelaa
/- Layer 6: the chapter's example, plain. -/
namespace Go.Proofs.Ythhmodbggngelaa
open Go.RowKit
set_option linter.unusedVariables false
set_option maxRecDepth 100000

theorem wr6 {D : Dsk} (hd : D.dead = false) (hf : D.fuse = -1) {i : Nat} (hi : i < D.kept.length) {l : List UInt8} (hl : l.length = 128) : D.write (i : Int) l = ({ D with pend := D.pend ++ [(i, l)] }, 0) := by
  obtain ⟨kept, pend, fuse, dead⟩ := D
  simp only at hd hf hi
  subst hd hf
  unfold Dsk.write
  simp only
  rw [if_neg (by simp), if_neg (by omega), if_neg (by omega), if_neg (by decide)]
  unfold Dsk.wrote Dsk.burnt full
  simp [hl]
theorem none6 : read5 zeros = none := by
  cases h : read5 zeros with
  | none => rfl
  | some s =>
    have h1 := congrArg List.head? (read_is h).2.1
    have h2 : (put5 s).head? = some 83 := rfl
    rw [h2] at h1
    cases h1
def a6 : St := ⟨1, 0, true, true, ⟨#[97]⟩⟩
def b6 : St := ⟨1, 1, true, true, ⟨#[98]⟩⟩
def c6 : St := ⟨1, 2, true, true, ⟨#[99]⟩⟩
def K0 : Dsk := fresh 5
def K1 : Dsk := { kept := [zeros, zeros, zeros, zeros, zeros], pend := [(1, put5 a6)], fuse := -1, dead := false }
def K2 : Dsk := { kept := [zeros, zeros, zeros, zeros, zeros], pend := [(1, put5 a6), (2, put5 b6)], fuse := -1, dead := false }
def K3 : Dsk := { kept := [zeros, put5 a6, put5 b6, zeros, zeros], pend := [], fuse := -1, dead := false }
def K4 : Dsk := { kept := [zeros, put5 a6, put5 b6, zeros, zeros], pend := [(3, put5 c6)], fuse := -1, dead := false }
def K6 : Dsk := { kept := [zeros, put5 a6, put5 b6, put5 c6, zeros], pend := [], fuse := -1, dead := false }
theorem len_a6 : (put5 a6).length = 128 := len_put5 (by decide)
theorem len_b6 : (put5 b6).length = 128 := len_put5 (by decide)
theorem len_c6 : (put5 c6).length = 128 := len_put5 (by decide)
theorem puts_one {f c : Nat} {D D' : Dsk} {s : St} (h : D.write ((f + s.q.toNat % c : Nat) : Int) (put5 s) = (D', 0)) : puts f c D [s] = (D', 0) := by
  unfold puts
  rw [h, if_pos rfl]
  rfl
theorem K_1 : puts 1 4 K0 [a6] = (K1, 0) := puts_one (wr6 (D := K0) rfl rfl (i := 1) (by decide) len_a6)
theorem K_2 : puts 1 4 K1 [b6] = (K2, 0) := puts_one (wr6 (D := K1) rfl rfl (i := 2) (by decide) len_b6)
theorem K_3 : K2.flush = (K3, 0) := rfl
theorem K_4 : puts 1 4 K3 [c6] = (K4, 0) := puts_one (wr6 (D := K3) rfl rfl (i := 3) (by decide) len_c6)
theorem K_5 : K4.crashed [] = K3 := rfl
theorem K_6 : K4.crashed [0] = K6 := rfl
theorem m_a6 : mk5 (raw5 1 0 (pcs5 ⟨#[97]⟩)) = [a6] ∧ (pcs5 ⟨#[97]⟩).length = 1 := by
  rw [pcs5_last (by decide)]
  exact ⟨by kernel_rfl, rfl⟩
theorem m_b6 : mk5 (raw5 1 1 (pcs5 ⟨#[98]⟩)) = [b6] ∧ (pcs5 ⟨#[98]⟩).length = 1 := by
  rw [pcs5_last (by decide)]
  exact ⟨by kernel_rfl, rfl⟩
theorem m_c6 : mk5 (raw5 1 2 (pcs5 ⟨#[99]⟩)) = [c6] ∧ (pcs5 ⟨#[99]⟩).length = 1 := by
  rw [pcs5_last (by decide)]
  exact ⟨by kernel_rfl, rfl⟩
theorem rd_a6 : read5 (put5 a6) = some a6 := read_put (by decide)
theorem rd_b6 : read5 (put5 b6) = some b6 := read_put (by decide)
theorem rd_c6 : read5 (put5 c6) = some c6 := read_put (by decide)
theorem sl_0 : slots5 K0 1 4 0 4 = [] := by
  have h : ∀ i, i < 4 → at5 K0 1 4 (0 + i) = none := fun i hi => by
    rcases (by omega : i = 0 ∨ i = 1 ∨ i = 2 ∨ i = 3) with rfl | rfl | rfl | rfl
    all_goals exact none6
  simp only [slots5, h 0 (by decide), h 1 (by decide), h 2 (by decide), h 3 (by decide)]
  rfl
theorem sl_3 : slots5 K3 1 4 0 4 = [(0, a6), (1, b6)] := by
  have h0 : at5 K3 1 4 (0 + 0) = some a6 := rd_a6
  have h1 : at5 K3 1 4 (0 + 1) = some b6 := rd_b6
  have h2 : at5 K3 1 4 (0 + 2) = none := none6
  have h3 : at5 K3 1 4 (0 + 3) = none := none6
  simp only [slots5, h0, h1, h2, h3]
  rfl
theorem sl_6 : slots5 K6 1 4 0 4 = [(0, a6), (1, b6), (2, c6)] := by
  have h0 : at5 K6 1 4 (0 + 0) = some a6 := rd_a6
  have h1 : at5 K6 1 4 (0 + 1) = some b6 := rd_b6
  have h2 : at5 K6 1 4 (0 + 2) = some c6 := rd_c6
  have h3 : at5 K6 1 4 (0 + 3) = none := none6
  simp only [slots5, h0, h1, h2, h3]
  rfl
theorem lk_3 : lk5 0 0 [(0, a6), (1, b6)] = ⟨[a6, b6], 1, 1⟩ := by kernel_rfl
theorem lk_6 : lk5 0 0 [(0, a6), (1, b6), (2, c6)] = ⟨[a6, b6, c6], 1, 1⟩ := by kernel_rfl
theorem top_0 : top5 K0 1 4 0 0 = 0 := by unfold top5; rw [sl_0]; rfl
theorem top_3 : top5 K3 1 4 0 0 = 1 := by unfold top5; rw [sl_3, lk_3]
theorem top_6 : top5 K6 1 4 0 0 = 1 := by unfold top5; rw [sl_6, lk_6]
theorem opn_0 {L : List Rc} {n E : Nat} (h : Opn K0 1 4 0 0 L n E) : L = [] ∧ n = 0 ∧ E = 1 := by
  obtain ⟨h1, k, h2, _, _, h3⟩ := h
  rw [top_0] at h1
  have hf : fnd K0 1 4 0 0 = [] := by unfold fnd; rw [sl_0]; rfl
  rw [hf, List.take_nil] at h3
  injection h3 with h4 h5
  exact ⟨h4.symm, by omega, by omega⟩
def rcA : Rc := ⟨0, 1, ⟨#[97]⟩⟩
def rcB : Rc := ⟨1, 2, ⟨#[98]⟩⟩
def rcC : Rc := ⟨2, 3, ⟨#[99]⟩⟩
theorem opn_3 {L : List Rc} {n E : Nat} (h : Opn K3 1 4 0 0 L n E) : L = [rcA, rcB] ∧ n = 2 ∧ E = 2 := by
  obtain ⟨h1, k, h2, h4, h5, h3⟩ := h
  rw [top_3] at h1
  have hf : fnd K3 1 4 0 0 = [a6, b6] := by unfold fnd; rw [sl_3, lk_3]
  rw [hf] at h2 h3 h5
  have h0 : adv5 [a6, b6] 0 = true ∧ adv5 [a6, b6] 1 = true := by decide +kernel
  have hk : k ≤ 2 := h2
  rcases (by omega : k = 0 ∨ k = 1 ∨ k = 2) with rfl | rfl | rfl
  · rw [h0.1] at h5; cases h5
  · rw [h0.2] at h5; cases h5
  · have h6 : jn5 ([a6, b6].take 2) [] [] (0 : Nat) false = ([rcA, rcB], 2) := by kernel_rfl
    rw [h6] at h3
    injection h3 with h7 h8
    exact ⟨h7.symm, by omega, by omega⟩
theorem opn_6 {L : List Rc} {n E : Nat} (h : Opn K6 1 4 0 0 L n E) : L = [rcA, rcB, rcC] ∧ n = 3 ∧ E = 2 := by
  obtain ⟨h1, k, h2, h4, h5, h3⟩ := h
  rw [top_6] at h1
  have hf : fnd K6 1 4 0 0 = [a6, b6, c6] := by unfold fnd; rw [sl_6, lk_6]
  rw [hf] at h2 h3 h5
  have h0 : adv5 [a6, b6, c6] 0 = true ∧ adv5 [a6, b6, c6] 1 = true ∧ adv5 [a6, b6, c6] 2 = true := by decide +kernel
  have hk : k ≤ 3 := h2
  rcases (by omega : k = 0 ∨ k = 1 ∨ k = 2 ∨ k = 3) with rfl | rfl | rfl | rfl
  · rw [h0.1] at h5; cases h5
  · rw [h0.2.1] at h5; cases h5
  · rw [h0.2.2] at h5; cases h5
  · have h6 : jn5 ([a6, b6, c6].take 3) [] [] (0 : Nat) false = ([rcA, rcB, rcC], 3) := by kernel_rfl
    rw [h6] at h3
    injection h3 with h7 h8
    exact ⟨h7.symm, by omega, by omega⟩
def z300 : ByteArray := ⟨(List.replicate 300 (0 : UInt8)).toArray⟩
theorem len_z300 : z300.size = 300 := by decide +kernel
theorem pcs_z300 : (pcs5 z300).length = 3 := by
  rw [pcs5_count z300.size z300 rfl, len_z300]
  decide
end Go.Proofs.Ythhmodbggngelaa
