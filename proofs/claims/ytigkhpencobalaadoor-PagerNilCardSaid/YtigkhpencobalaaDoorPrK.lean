/- Layer 9: steps of an example: a pager over a well disk, made since. -/
import Derived.Test.YtigkhpencobalaaDoorPrJ
namespace Go.Proofs.YtigkhpencobalaaDoor
open Go.RowKit
set_option linter.unusedVariables false
set_option linter.unusedSimpArgs false
set_option maxRecDepth 100000

theorem Pq.lt {S : Nat → Prop} {w : World} {p pd fr : Nat} {st : List Nat} {D : Dsk} (h : Pq S w p pd fr st D) : ∀ k, S k → k < w.heap.size := fun k hk => by
  obtain ⟨pa, ga, gr, SD, hP, hD, hap, rfl, hroom⟩ := h
  rcases hk with h | h | h | h | h
  · rw [h]; exact hP.bx.lt
  · rw [h]; exact hP.al.ltp
  · rw [h]; exact hP.al.ltg
  · rw [h]; exact hP.row.lt
  · exact hD.lt k h
theorem Pq.turn {S T : Nat → Prop} {w w' : World} {p pd fr : Nat} {st : List Nat} {D : Dsk} (h : Pq S w p pd fr st D) (ht : Turn T w w') (hs : ∀ k, S k → ¬ T k) (h0 : ¬ T 0) : Pq S w' p pd fr st D := by
  obtain ⟨pa, ga, gr, SD, hP, hD, hap, rfl, hroom⟩ := h
  exact ⟨pa, ga, gr, SD, hP.turn ht (hs _ (.inl rfl)) (hs _ (.inr (.inl rfl))) (hs _ (.inr (.inr (.inl rfl)))) (hs _ (.inr (.inr (.inr (.inl rfl))))) h0, hD.turn ht (fun k hk => hs k (.inr (.inr (.inr (.inr hk))))), hap, rfl, hroom⟩
theorem Pq.still {S : Nat → Prop} {w w' : World} {p pd fr : Nat} {st : List Nat} {D : Dsk} (h : Pq S w p pd fr st D) (ht : Turn (fun _ => False) w w') : Pq S w' p pd fr st D := h.turn ht (fun _ _ h => h) (fun h => h)
/-- A call that touches the row of pages and the alloc alone. -/
theorem Pq.step {S : Nat → Prop} {w : World} {p pd fr : Nat} {st : List Nat} {D : Dsk} (h : Pq S w p pd fr st D) : ∃ pa ga gr, Pm w p pd pa ga gr fr st (bits9 st) ∧ ∀ (w' : World) (st' : List Nat), Pm w' p pd pa ga gr fr st' (bits9 st') → Turn (fun k => k = gr ∨ k = ga) w w' → st'.length = st.length → ∃ S', Pq S' w' p pd fr st' D ∧ Stp S w S' w' := by
  obtain ⟨pa, ga, gr, SD, hP, hD, hap, rfl, hroom⟩ := h
  refine ⟨pa, ga, gr, hP, fun w' st' hP' ht hl => ?_⟩
  refine Pq.mk (SD := SD) hP' (hD.turn ht (fun k hk h => by rcases h with h | h; exact (hap k hk).2.2.2.1 h; exact (hap k hk).2.2.1 h)) hap ⟨hP.bx.lt, hP.al.ltp, hP.al.ltg, hP.row.lt⟩ (fun k hk => .inl hk) (ht.mono (fun k _ hk => ?_)) (by rw [hl]; exact hroom)
  rcases hk with h | h
  · exact .inr (.inr (.inr (.inl h)))
  · exact .inr (.inr (.inl h))
theorem len_rel9 (st : List Nat) (i : Int) : (rel9 st i).1.length = st.length := by
  unfold rel9
  split
  · split
    · simp
    · split <;> simp
  · rfl
theorem settle9_q {S : Nat → Prop} {w : World} {p pd fr : Nat} {st : List Nat} {D : Dsk} (h : Pq S w p pd fr st D) :
    Calls Tryd.prog 19 #[.pointer (some ⟨p, 0, none⟩)] w fun r w' => r = .returned (.int .i64 0) ∧ ∃ S', Pq S' w' p pd fr (settle9 st) D ∧ Stp S w S' w' := by
  obtain ⟨pa, ga, gr, hP, hstep⟩ := h.step
  exact (settle9_any hP).mono fun e w' ⟨h1, h2, h3⟩ => ⟨h1, hstep w' _ h2 h3 (by unfold settle9; rw [len_trn9, len_trn9])⟩
theorem undo9_q {S : Nat → Prop} {w : World} {p pd fr : Nat} {st : List Nat} {D : Dsk} (h : Pq S w p pd fr st D) :
    Calls Tryd.prog 21 #[.pointer (some ⟨p, 0, none⟩)] w fun r w' => r = .returned (.int .i64 0) ∧ ∃ S', Pq S' w' p pd fr (undo9 st) D ∧ Stp S w S' w' := by
  obtain ⟨pa, ga, gr, hP, hstep⟩ := h.step
  exact (undo9_any hP).mono fun e w' ⟨h1, h2, h3⟩ => ⟨h1, hstep w' _ h2 h3 (by unfold undo9; rw [len_trn9, len_trn9])⟩
theorem release9_q {S : Nat → Prop} {w : World} {p pd fr : Nat} {st : List Nat} {D : Dsk} (h : Pq S w p pd fr st D) (i : Int) :
    Calls Tryd.prog 17 #[.pointer (some ⟨p, 0, none⟩), .int .i64 i] w fun r w' => r = .returned (.int .i64 (rel9 st i).2) ∧ ∃ S', Pq S' w' p pd fr (rel9 st i).1 D ∧ Stp S w S' w' := by
  obtain ⟨pa, ga, gr, hP, hstep⟩ := h.step
  exact (release9_any hP i).mono fun e w' ⟨h1, h2, h3⟩ => ⟨h1, hstep w' _ h2 h3 (len_rel9 st i)⟩
/-- Numbers that a slice holds, apart from a set of blocks. -/
def Rk (S : Nat → Prop) (w : World) (v : Value) (L : List Int) : Prop := ∃ A c, v = .slice A L.length c ∧ ∀ j z, L[j]? = some z → ∃ b, A = some ⟨b, 0, none⟩ ∧ b < w.heap.size ∧ ¬ S b ∧ w.cell? ⟨b, j, none⟩ = some (.int .i64 z)
theorem Rk.step {S S' : Nat → Prop} {w w' : World} {v : Value} {L : List Int} (h : Rk S w v L) (hs : Stp S w S' w') : Rk S' w' v L := by
  obtain ⟨A, c, e, hr⟩ := h
  refine ⟨A, c, e, fun j z hj => ?_⟩
  obtain ⟨b, h1, h2, h3, h4⟩ := hr j z hj
  exact ⟨b, h1, Nat.lt_of_lt_of_le h2 hs.1.size, fun h => by rcases hs.2 b h with h | h; exact h3 h; omega, (World.cell?_of_block (w := w) (a := ⟨b, j, none⟩) (hs.1.block b h2 h3)).trans h4⟩
theorem Rk.ir {S : Nat → Prop} {w : World} {v : Value} {L : List Int} (h : Rk S w v L) : ∃ A c, v = .slice A L.length c ∧ Ir w A L := by
  obtain ⟨A, c, e, hr⟩ := h
  exact ⟨A, c, e, fun j z hj => by obtain ⟨b, h1, h2, _, h4⟩ := hr j z hj; exact ⟨b, h1, h2, h4⟩⟩
theorem rk_of {S : Nat → Prop} {B : Nat} {w : World} {v : Value} {L : List Int} (h : Rw9 B w v L) (hS : ∀ k, S k → k < B) : Rk S w v L := by
  obtain ⟨A, c, rfl⟩ := own_slice9 h
  exact ⟨A, c, rfl, fun j z hj => by
    obtain ⟨g, h1, h2, h3, h4⟩ := own_at9 h j (.int .i64 z) (by rw [List.getElem?_map, hj]; rfl)
    exact ⟨g, h1, h3, fun h => by have := hS g h; omega, h4⟩⟩
theorem pages9_q {S : Nat → Prop} {w : World} {p pd fr : Nat} {st : List Nat} {D : Dsk} (h : Pq S w p pd fr st D) :
    Calls Tryd.prog 36 #[.pointer (some ⟨p, 0, none⟩)] w fun r w' => ∃ v1 v2 v3, r = .returned (.tuple #[v1, v2, v3]) ∧ Rk S w' v1 (pk9 1 st) ∧ Rk S w' v2 (pk9 2 st) ∧ Rk S w' v3 (pk9 3 st) ∧ Pq S w' p pd fr st D ∧ Turn (fun _ => False) w w' := by
  have hlt := h.lt
  have hq := h
  obtain ⟨pa, ga, gr, SD, hP, hD, hap, rfl, hroom⟩ := h
  exact (pages9_any hP).mono fun e w' ⟨v1, v2, v3, h1, h2, h3, h4, h5⟩ => ⟨v1, v2, v3, h1, rk_of h2 hlt, rk_of h3 hlt, rk_of h4 hlt, hq.still h5, h5⟩
/-- On the way: all is made since w. -/
structure Lv9 (w : World) (S : Nat → Prop) (X : World) (p pd : Nat) (st : List Nat) (D : Dsk) : Prop where
  q : Pq S X p pd 2 st D
  new : ∀ k, S k → w.heap.size ≤ k
  tn : Turn (fun _ => False) w X
  good : Good D
  kl : D.kept.length = 30
  pl : D.pend.length ≤ 100
variable {w X X' : World} {S S' : Nat → Prop} {p pd : Nat} {st st' : List Nat} {D D' : Dsk}
theorem Lv9.go (h : Lv9 w S X p pd st D) (hq : Pq S' X' p pd 2 st' D') (hs : Stp S X S' X') (hg : Good D') (hk : D'.kept.length = 30) (hp : D'.pend.length ≤ 100) : Lv9 w S' X' p pd st' D' := by
  have hz := h.tn.size
  refine ⟨hq, fun k hk => ?_, h.tn.trans_new hs.1 (fun k hk hs2 => by have := h.new k hs2; omega), hg, hk, hp⟩
  rcases hs.2 k hk with h1 | h1
  · exact h.new k h1
  · omega
theorem Lv9.al (h : Lv9 w S X p pd st D) (o : Obj) : Lv9 w S (X.alloc o) p pd st D := ⟨h.q.still ((Turn.refl _ _).alloc o), h.new, h.tn.alloc o, h.good, h.kl, h.pl⟩
theorem Lv9.write (h : Lv9 w S X p pd st D) (l : List UInt8) (n : Nat) (C : Array Value) (fz : Nat × Nat) (hC : C = (bv l).toArray) (hn : l.length = n) (hn1 : n ≤ 1024) (i : Nat) (z : Int) (hz : z = i) (hf : fst9 st = some i) (hi : 2 + 8 * i + 8 ≤ 30) (hp : D.pend.length ≤ 90) :
    Calls Tryd.prog 31 #[.pointer (some ⟨p, 0, none⟩), .slice (some ⟨X.heap.size, 0, none⟩) n n] (X.alloc (.cells C 5 fz)) fun r w' => r = .returned (.tuple #[.int .i64 z, .int .i64 0]) ∧ ∃ S', Lv9 w S' w' p pd (st.set i 2) (putk 8 D ((2 + 8 * i : Nat) : Int) l).1 ∧ Stp S (X.alloc (.cells C 5 fz)) S' w' := by
  have hb := ba_mark X h.q.lt l n C fz hC hn (by omega)
  have ha := h.al (.cells C 5 fz)
  have hw := write9_any ha.q hb (by omega)
  rw [hn, wr9_ok (i := i) (by omega) hf h.good (by rw [h.kl]; omega)] at hw
  subst hz
  have hl := putk_len 8 D ((2 + 8 * i : Nat) : Int) l
  exact hw.mono fun e w' ⟨h1, S', h2, h3⟩ => ⟨h1, S', ha.go h2 h3 (putk_good 8 D _ l h.good (by rw [h.kl]; omega)).2 (by rw [hl.1]; exact h.kl) (by omega), h3⟩
theorem Lv9.full (h : Lv9 w S X p pd st D) (l : List UInt8) (n : Nat) (C : Array Value) (fz : Nat × Nat) (hC : C = (bv l).toArray) (hn : l.length = n) (hn1 : n ≤ 1024) (hf : fst9 st = none) :
    Calls Tryd.prog 31 #[.pointer (some ⟨p, 0, none⟩), .slice (some ⟨X.heap.size, 0, none⟩) n n] (X.alloc (.cells C 5 fz)) fun r w' => r = .returned (.tuple #[.int .i64 0, .int .i64 10]) ∧ ∃ S', Lv9 w S' w' p pd st D ∧ Stp S (X.alloc (.cells C 5 fz)) S' w' := by
  have hb := ba_mark X h.q.lt l n C fz hC hn (by omega)
  have ha := h.al (.cells C 5 fz)
  have hw := write9_any ha.q hb (by have := h.pl; omega)
  rw [hn, wr9_full (by omega) hf] at hw
  exact hw.mono fun e w' ⟨h1, S', h2, h3⟩ => ⟨h1, S', ha.go h2 h3 h.good h.kl h.pl, h3⟩
theorem Lv9.settle (h : Lv9 w S X p pd st D) : Calls Tryd.prog 19 #[.pointer (some ⟨p, 0, none⟩)] X fun r w' => r = .returned (.int .i64 0) ∧ ∃ S', Lv9 w S' w' p pd (settle9 st) D ∧ Stp S X S' w' :=
  (settle9_q h.q).mono fun e w' ⟨h1, S', h2, h3⟩ => ⟨h1, S', h.go h2 h3 h.good h.kl h.pl, h3⟩
theorem Lv9.undo (h : Lv9 w S X p pd st D) : Calls Tryd.prog 21 #[.pointer (some ⟨p, 0, none⟩)] X fun r w' => r = .returned (.int .i64 0) ∧ ∃ S', Lv9 w S' w' p pd (undo9 st) D ∧ Stp S X S' w' :=
  (undo9_q h.q).mono fun e w' ⟨h1, S', h2, h3⟩ => ⟨h1, S', h.go h2 h3 h.good h.kl h.pl, h3⟩
theorem Lv9.release (h : Lv9 w S X p pd st D) (i : Int) : Calls Tryd.prog 17 #[.pointer (some ⟨p, 0, none⟩), .int .i64 i] X fun r w' => r = .returned (.int .i64 (rel9 st i).2) ∧ ∃ S', Lv9 w S' w' p pd (rel9 st i).1 D ∧ Stp S X S' w' :=
  (release9_q h.q i).mono fun e w' ⟨h1, S', h2, h3⟩ => ⟨h1, S', h.go h2 h3 h.good h.kl h.pl, h3⟩
theorem Lv9.pages (h : Lv9 w S X p pd st D) : Calls Tryd.prog 36 #[.pointer (some ⟨p, 0, none⟩)] X fun r w' => ∃ v1 v2 v3, r = .returned (.tuple #[v1, v2, v3]) ∧ Rk S w' v1 (pk9 1 st) ∧ Rk S w' v2 (pk9 2 st) ∧ Rk S w' v3 (pk9 3 st) ∧ Lv9 w S w' p pd st D ∧ Turn (fun _ => False) X w' :=
  (pages9_q h.q).mono fun e w' ⟨v1, v2, v3, h1, h2, h3, h4, h5, h6⟩ => ⟨v1, v2, v3, h1, h2, h3, h4, ⟨h5, h.new, h.tn.trans h6, h.good, h.kl, h.pl⟩, h6⟩
end Go.Proofs.YtigkhpencobalaaDoor
