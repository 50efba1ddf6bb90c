/- Layer 14: rounds of steps, whatever is kept beside; what Scan tells, and where -/
import Derived.Test.YtobddfpdijmgiaaSpBh
namespace Go.Proofs.Ytobddfpdijmgiaa
open Go.RowKit Go.Shelf
set_option linter.unusedVariables false
set_option linter.unusedSimpArgs false
set_option maxRecDepth 100000
attribute [local go_sem] Oper.semAt_some

/-- What holds at the head of a round: a space and the document's, its box, and blocks that the space keeps off. -/
def Ls14 (w : World) (mb : Nat) (B : Nat → Prop) (N : Nat) (Q : Int → Int → List Itm → Prop) (q : Nat) (vk : Value) (g : Nat) (last mark : Int) (mv : Value) (X : World) : Prop :=
  (∃ M Md, St14 X q vk g M last mark mv Md N ∧ Q last mark (M.map (fun p : Itm × Value => p.1))) ∧ Blk X mb 32 [mv, .int .i64 last, .int .i64 mark] ∧ (∀ k, Sw q vk g k → w.heap.size ≤ k ∧ k ≠ mb ∧ ¬ B k) ∧ w.heap.size ≤ mb ∧ (∀ k, B k → k < X.heap.size) ∧ Turn (fun _ => False) w X
theorem Ls14.still {w X Y : World} {mb N q g : Nat} {B : Nat → Prop} {Q : Int → Int → List Itm → Prop} {vk mv : Value} {last mark : Int} (h : Ls14 w mb B N Q q vk g last mark mv X) (ht : Turn (fun _ => False) X Y) : Ls14 w mb B N Q q vk g last mark mv Y := by
  obtain ⟨⟨M, Md, h1, hq⟩, h2, h3, h4, h5, h6⟩ := h
  exact ⟨⟨M, Md, h1.still ht, hq⟩, h2.turn ht (fun h => h), h3, h4, fun k hk => Nat.lt_of_lt_of_le (h5 k hk) ht.size, h6.trans ht⟩
theorem Ls14.le {w X : World} {mb N K q g : Nat} {B : Nat → Prop} {Q : Int → Int → List Itm → Prop} {vk mv : Value} {last mark : Int} (h : Ls14 w mb B N Q q vk g last mark mv X) (hk : N ≤ K) : Ls14 w mb B K Q q vk g last mark mv X := by
  obtain ⟨⟨M, Md, h1, hq⟩, h2⟩ := h
  exact ⟨⟨M, Md, ⟨h1.sp, h1.ix, h1.eq, h1.wf, h1.rng, h1.ap, h1.bm.le hk⟩, hq⟩, h2⟩
theorem ls_step {w wx : World} {mb N q g ln lM cM : Nat} {B : Nat → Prop} {Q : Int → Int → List Itm → Prop} {vk av : Value} {last mark : Int} {AM : Option Addr} (ak ta : Int) (aL : List Cg) (h : Ls14 w mb B N Q q vk g last mark (.slice AM lM cM) wx) (hN : N ≤ 20000) (hL : aL.length = ln) (hl : ln ≤ 1000) (ht : -100 ≤ ta ∧ ta ≤ 1099511627776) (hc : ∀ X, Turn (fun _ => False) w X → Cx X av aL)
    (hQ : ∀ l' m' I I', (m' = mark ∨ ak = 1 ∧ m' = mark + ta) → (∀ s, mark ≤ s → m' ≤ s → s ≤ last → s ≤ l' ∧ Sm14 I' I s) → Q last mark I → Q l' m' I') :
    ∀ X, Turn (fun _ => False) wx X → Calls Try.prog 21 #[.pointer (some ⟨q, 0, none⟩), .agg #[.slice AM lM cM, .int .i64 last, .int .i64 mark], .agg #[.int .i64 ak, .int .i64 ta, av]] X fun e w9 => ∃ v, e = .returned v ∧ ∃ (q2 : Nat) (vk2 : Value) (g2 : Nat) (la2 mk2 : Int) (A2 : Option Addr) (n2 c2 : Nat), v = .tuple #[.pointer (some ⟨q2, 0, none⟩), .agg #[.slice A2 n2 c2, .int .i64 la2, .int .i64 mk2], .bool true] ∧ (∃ M Md, St14 w9 q2 vk2 g2 M la2 mk2 (.slice A2 n2 c2) Md (N + 1 + ln) ∧ Q la2 mk2 (M.map (fun p : Itm × Value => p.1))) ∧ (∀ k, Sw q2 vk2 g2 k → Sw q vk g k ∨ X.heap.size ≤ k) ∧ Turn (Sw q vk g) X w9 := fun X hX => by
  subst hL
  obtain ⟨⟨M, Md, hst, hq⟩, _, _, _, _, h6⟩ := h
  refine (step_14q ak ta aL (hst.still hX) hN (hc X (h6.trans hX)) hl ht).mono fun e w9 ⟨v, h1, q2, vk2, g2, M2, la2, mk2, mv2, Md2, h2, h3, h4, h5, h7, h8⟩ => ?_
  obtain ⟨A2, c2, e, _⟩ := id h3.ix
  subst e
  exact ⟨v, h1, q2, vk2, g2, la2, mk2, A2, _, c2, h2, ⟨M2, Md2, h3, hQ _ _ _ _ h7 h8 hq⟩, h4, h5⟩
theorem ls_end {w wx W9 : World} {mb N N2 q g q2 g2 : Nat} {B : Nat → Prop} {Q : Int → Int → List Itm → Prop} {vk mv vk2 mv2 : Value} {last mark la2 mk2 : Int} (h : Ls14 w mb B N Q q vk g last mark mv wx) (hs : ∃ A n c, mv = .slice A n c) (ht : Turn (Sw q vk g) wx W9) (hst : ∃ M Md, St14 W9 q2 vk2 g2 M la2 mk2 mv2 Md N2 ∧ Q la2 mk2 (M.map (fun p : Itm × Value => p.1)))
    (hf : ∀ k, Sw q2 vk2 g2 k → Sw q vk g k ∨ wx.heap.size ≤ k) : ∀ Y, Turn (fun k => k = mb) W9 Y → Blk Y mb 32 [mv2, .int .i64 la2, .int .i64 mk2] → Ls14 w mb B N2 Q q2 vk2 g2 la2 mk2 mv2 Y := fun Y hY hB => by
  obtain ⟨_, h2, h3, h4, h5, h6⟩ := h
  obtain ⟨M, Md, hst, hq⟩ := hst
  have hmb := h2.lt
  have hF : ∀ k, Sw q2 vk2 g2 k → w.heap.size ≤ k ∧ k ≠ mb ∧ ¬ B k := fun k hk => by
    rcases hf k hk with h | h
    · exact h3 k h
    · have := h6.size
      exact ⟨by omega, by omega, fun hb => by have := h5 k hb; omega⟩
  have b9 := h2.turn ht (fun h => (h3 _ h).2.1 rfl)
  obtain ⟨A, n, c, rfl⟩ := hs
  refine ⟨⟨M, Md, hst.box b9 (by simp) (fun k hk => (hF k hk).2.1) hY, hq⟩, hB, hF, h4, fun k hk => Nat.lt_of_lt_of_le (h5 k hk) (Nat.le_trans ht.size hY.size), ?_⟩
  have h0 : Turn (fun k => w.heap.size ≤ k) w Y := ((h6.mono (fun k _ h => h.elim)).trans (ht.mono (fun k _ h => (h3 k h).1))).trans (hY.mono (fun k _ e => by omega))
  exact h0.mono (fun k hk h => by omega)
theorem ls_cells {w wx : World} {mb N q g : Nat} {B : Nat → Prop} {Q : Int → Int → List Itm → Prop} {vk mv : Value} {last mark : Int} (h : Ls14 w mb B N Q q vk g last mark mv wx) : ∀ X, Turn (Sw q vk g) wx X → Turn (fun _ => False) w X ∧ X.cell? ⟨mb, 0, none⟩ = some mv ∧ X.cell? ⟨mb, 1, none⟩ = some (.int .i64 last) ∧ X.cell? ⟨mb, 2, none⟩ = some (.int .i64 mark) := fun X hX => by
  obtain ⟨_, h2, h3, h4, h5, h6⟩ := h
  have h0 : Turn (fun k => w.heap.size ≤ k) w X := (h6.mono (fun k _ h => h.elim)).trans (hX.mono (fun k _ h => (h3 k h).1))
  have bm := h2.turn hX (fun h => (h3 _ h).2.1 rfl)
  exact ⟨h0.mono (fun k hk h => by omega), bm.cell 0, bm.cell 1, bm.cell 2⟩
theorem scan_f14 {w : World} {q g : Nat} {vk : Value} {M : List (Itm × Value)} {last mark : Int} (fa fb : ByteArray) (t most : Int) (h : Sp w q vk g M last mark) (hb : Bm 100000 M) (hka : fa.size ≤ 140737488351232) (hkb : fb.size ≤ 140737488351232) :
    Calls Try.prog 22 #[.pointer (some ⟨q, 0, none⟩), .string fa, .string fb, .int .i64 t, .int .i64 most] w fun e w' => ∃ A n c, e = .returned (.tuple #[.slice A n c, .int .i64 (kept14 last mark t)]) ∧ (Px w' (.slice A n c) (if kept14 last mark t = 0 then scl M fa fb t most else []) ∧ ∀ b, vb (.slice A n c) = some b → w.heap.size ≤ b ∧ b < w'.heap.size) ∧ Turn (fun _ => False) w w' := by
  by_cases hk : kept14 last mark t = 0
  · refine (scan_14 fa fb t most h hb hka hkb hk).mono fun e w' ⟨v, h1, h2, h3⟩ => ?_
    obtain ⟨A, c, e⟩ := own_slice_ h2
    subst e
    refine ⟨A, _, c, by rw [h1, hk], ⟨?_, fun b hb2 => own_ge9 h2 b (by cases A <;> simp_all [vb, Value.ownBlock])⟩, h3⟩
    rw [if_pos hk]
    exact Po.px h2 (by have := scl_len14 h.ord fa fb t most; have := hb.1; omega)
  · refine (scan_14e fa fb t most h hk).mono fun e w' ⟨h1, h3⟩ => ⟨none, 0, 0, h1, ⟨?_, fun b hb => by cases hb⟩, h3⟩
    rw [if_neg hk]
    exact (po_nil 0 w').px (by decide)
theorem Px.turn {S : Nat → Prop} {w w' : World} {v : Value} {L : List Pq2} (h : Px w v L) (ht : Turn S w w') (hf : ∀ b, vb v = some b → ¬ S b) : Px w' v L := by
  obtain ⟨A, c, rfl, hl, hr⟩ := h
  exact ⟨A, c, rfl, hl, hr.turn ht (fun hp ad e hS => by subst e; exact hf _ rfl hS)⟩
def Q1 : Int → Int → List Itm → Prop := fun _ _ _ => True
def Q2 (I0 : List Itm) (s : Int) : Int → Int → List Itm → Prop := fun la mk I => mk ≤ s ∧ s ≤ la ∧ Sm14 I I0 s
end Go.Proofs.Ytobddfpdijmgiaa
