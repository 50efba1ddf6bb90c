/- Layer 14: a step of any kind; SpacePlays: its walk. (mkSpBh.py) -/
import Derived.Test.YtobddfpdijmgiaaSpBd
import Derived.Test.YtobddfpdijmgiaaSpBe
import Derived.Test.YtobddfpdijmgiaaSpBg
namespace Go.Proofs.Ytobddfpdijmgiaa
open Go.RowKit Go.Shelf
set_option linter.unusedVariables false
set_option linter.unusedSimpArgs false
set_option maxRecDepth 100000
attribute [local go_sem] Oper.semAt_some

theorem Stp.le {w w' : World} {q g N K : Nat} {vk v : Value} (h : Stp w q vk g N v w') (hk : N ≤ K) : Stp w q vk g K v w' := by
  obtain ⟨q', vk', g', M', last', mark', mv', Md', h1, h2, h3, h4⟩ := h
  exact ⟨q', vk', g', M', last', mark', mv', Md', h1, ⟨h2.sp, h2.ix, h2.eq, h2.wf, h2.rng, h2.ap, h2.bm.le hk⟩, h3, h4⟩
theorem Stq.le {w w' : World} {q g N K : Nat} {vk v : Value} {I : List Itm} {last mark k t : Int} (h : Stq w q vk g I last mark k t N v w') (hk : N ≤ K) : Stq w q vk g I last mark k t K v w' := by
  obtain ⟨q', vk', g', M', last', mark', mv', Md', h1, h2, h3⟩ := h
  exact ⟨q', vk', g', M', last', mark', mv', Md', h1, ⟨h2.sp, h2.ix, h2.eq, h2.wf, h2.rng, h2.ap, h2.bm.le hk⟩, h3⟩
theorem step_14q {w : World} {q g : Nat} {vk mv lv : Value} {M Md : List (Itm × Value)} {last mark : Int} {N : Nat} (k t : Int) (L : List Cg) (h : St14 w q vk g M last mark mv Md N) (hN : N ≤ 20000) (hlv : Cx w lv L) (hL : L.length ≤ 1000) (ht : -100 ≤ t ∧ t ≤ 1099511627776) :
    Calls Try.prog 21 #[.pointer (some ⟨q, 0, none⟩), .agg #[mv, .int .i64 last, .int .i64 mark], .agg #[.int .i64 k, .int .i64 t, lv]] w fun e w' => ∃ v, e = .returned v ∧ Stq w q vk g (M.map (fun p : Itm × Value => p.1)) last mark k t (N + 1 + L.length) v w' := by
  have hs : ∃ A n c, lv = .slice A n c := by obtain ⟨A, c, e, _⟩ := hlv; exact ⟨A, _, c, e⟩
  by_cases h1 : k = 1
  · subst h1
    exact (step_vac14 t h hN hs ht).mono fun e w' ⟨v, e1, e2⟩ => ⟨v, e1, e2.le (by omega)⟩
  by_cases h2 : k = 2
  · subst h2
    exact (step_cpy14 t h hN hs).mono fun e w' ⟨v, e1, e2⟩ => ⟨v, e1, e2.le (by omega)⟩
  by_cases h3 : k = 3
  · subst h3
    exact (step_lod14 t h hN hs).mono fun e w' ⟨v, e1, e2⟩ => ⟨v, e1, e2.le (by omega)⟩
  exact (step_apl14 k t L h hN hlv hL ht h1 h2 h3).mono fun e w' ⟨v, e1, e2⟩ => ⟨v, e1, e2.le (by omega)⟩
theorem step_14 {w : World} {q g : Nat} {vk mv lv : Value} {M Md : List (Itm × Value)} {last mark : Int} {N : Nat} (k t : Int) (L : List Cg) (h : St14 w q vk g M last mark mv Md N) (hN : N ≤ 20000) (hlv : Cx w lv L) (hL : L.length ≤ 1000) (ht : -100 ≤ t ∧ t ≤ 1099511627776) :
    Calls Try.prog 21 #[.pointer (some ⟨q, 0, none⟩), .agg #[mv, .int .i64 last, .int .i64 mark], .agg #[.int .i64 k, .int .i64 t, lv]] w fun e w' => ∃ v, e = .returned v ∧ Stp w q vk g (N + 1 + L.length) v w' :=
  (step_14q k t L h hN hlv hL ht).mono fun e w' ⟨v, e1, e2⟩ => ⟨v, e1, e2.stp⟩
theorem ix_not_blk {w : World} {b t : Nat} {cs : List Value} {v : Value} {M : List (Itm × Value)} (h : Ix w v M) (hB : Blk w b t cs) (hs : ∀ c ∈ cs, ∀ s, c ≠ .string s) : Ap14 b v M := by
  obtain ⟨A, c, rfl, hl, hr, hw⟩ := h
  refine ⟨fun h0 b' hb e => ?_, fun p hp h0 b' hb e => ?_⟩
  · subst e
    obtain ⟨b2, o, rfl, _, hc⟩ := hr (by rw [flat_len ic_len]; omega)
    have e : some b2 = some b' := hb
    cases e
    obtain ⟨p, hp⟩ : ∃ p, M[0]? = some p := ⟨_, List.getElem?_eq_getElem h0⟩
    have h1 := hc 0 (.string p.1.k) (by have := flat_at ic_len M 0 0 p hp (by omega); simpa [ic] using this)
    rw [hB.cell] at h1
    exact hs _ (List.mem_of_getElem? h1) _ rfl
  · subst e
    exact vr_not_blk (hw p hp) h0 hb hB hs
theorem St14.box {w w' : World} {q g b t N : Nat} {vk mv : Value} {cs : List Value} {M Md : List (Itm × Value)} {last mark : Int} (h : St14 w q vk g M last mark mv Md N) (hB : Blk w b t cs) (hs : ∀ c ∈ cs, ∀ s, c ≠ .string s) (hne : ∀ k, Sw q vk g k → k ≠ b) (ht : Turn (fun k => k = b) w w') : St14 w' q vk g M last mark mv Md N :=
  ⟨h.sp.turn ht (hne _ (.inl rfl)) (hne _ (.inr (.inl rfl))) (fun k hk => hne k (.inr (.inr hk))) (fun p hp h0 b2 hb e => by subst e; exact vr_not_blk (h.sp.vers p hp).1.1 h0 hb hB hs), h.ix.turn (ix_not_blk h.ix hB hs) ht, h.eq, h.wf, h.rng, h.ap, h.bm⟩
theorem cn14_le (qs : List Ac14) (i : Nat) : cn14 (qs.take i) ≤ cn14 qs := by
  have h : cn14 qs = cn14 (qs.take i) + cn14 (qs.drop i) := by
    unfold cn14
    rw [← List.sum_append, ← List.map_append, List.take_append_drop]
  omega
/-- What holds at the head of a round. -/
def Lp14 (w : World) (mb : Nat) (qs : List Ac14) (i : Nat) (q : Nat) (vk : Value) (g : Nat) (last mark : Int) (mv : Value) (X : World) : Prop :=
  (∃ M Md, St14 X q vk g M last mark mv Md (cn14 (qs.take i))) ∧ Blk X mb 32 [mv, .int .i64 last, .int .i64 mark] ∧ (∀ k, Sw q vk g k → w.heap.size ≤ k ∧ k ≠ mb) ∧ w.heap.size ≤ mb ∧ Turn (fun _ => False) w X
theorem Lp14.still {w X Y : World} {mb i q g : Nat} {qs : List Ac14} {vk mv : Value} {last mark : Int} (h : Lp14 w mb qs i q vk g last mark mv X) (ht : Turn (fun _ => False) X Y) : Lp14 w mb qs i q vk g last mark mv Y := by
  obtain ⟨⟨M, Md, h1⟩, h2, h3, h4, h5⟩ := h
  exact ⟨⟨M, Md, h1.still ht⟩, h2.turn ht (fun h => h), h3, h4, h5.trans ht⟩
theorem Acts14.row {w : World} {A : Option Addr} {n c : Nat} {qs : List Ac14} (h : Acts14 w (.slice A n c) qs) : qs.length = n ∧ ∀ i q, qs[i]? = some q → ∃ b o, A = some ⟨b, o, none⟩ ∧ ∀ X, Turn (fun _ => False) w X → (X.cell? ⟨b, o + i * 3, none⟩ = some (.int .i64 q.k) ∧ X.cell? ⟨b, o + i * 3 + 1, none⟩ = some (.int .i64 q.t) ∧ X.cell? ⟨b, o + i * 3 + 2, none⟩ = some q.v) ∧ Cx X q.v q.L := by
  obtain ⟨A', c', e, hl, hr⟩ := h
  injection e with e1 e2 e3
  subst e1 e2
  refine ⟨rfl, fun i q hi => ?_⟩
  obtain ⟨b, o, rfl, hb, hc⟩ := hr (by have := (List.getElem?_eq_some_iff.1 hi).1; omega)
  obtain ⟨⟨c0, c1, c2⟩, hx, _⟩ := hc i q hi
  refine ⟨b, o, rfl, fun X hX => ⟨⟨?_, ?_, ?_⟩, hx.still hX⟩⟩
  · exact (World.cell?_of_block (w := w) (a := ⟨b, _, none⟩) (hX.block b hb (fun h => h))).trans c0
  · exact (World.cell?_of_block (w := w) (a := ⟨b, _, none⟩) (hX.block b hb (fun h => h))).trans c1
  · exact (World.cell?_of_block (w := w) (a := ⟨b, _, none⟩) (hX.block b hb (fun h => h))).trans c2
end Go.Proofs.Ytobddfpdijmgiaa
