/- Layer 8: what the program's fields has on the way, in one. -/
import Derived.Test.YtcmghbglnkfbaaaPgRi
namespace Go.Proofs.Ytcmghbglnkfbaaa
open Go.RowKit
set_option linter.unusedVariables false
set_option linter.unusedSimpArgs false
set_option maxRecDepth 100000

theorem wpAnyH_nm8 {P : Program} {md : Region.Mode} {ops : Array Oper} {Q : Exit → Act → World → Prop} {S : World → Prop} {fuel : Nat} {listed : Array Bool} {a : Act} {w : World} (h : ∀ X, X = w → wpAnyH P md ops Q S fuel listed a X) : wpAnyH P md ops Q S fuel listed a w := h w rfl
theorem Blk.nw8 {w X : World} {t : Nat} {cs : List Value} (e : X = w.alloc (.cells cs.toArray t)) : Blk X w.heap.size t cs := e ▸ Blk.new w t cs
/-- A reader, the result's box, the node's box, its keys' row and another row of its own. -/
structure Fx (w X : World) (p : Nat) (l : List UInt8) (a e q : Nat) (cs : List Value) (vK : Value) (K : List ByteArray) (t2 : Nat) (v2 : Value) (V : List Value) : Prop where
  rd : Rdr X p l a e
  rb : Blk X w.heap.size 26 [.bool false, .slice none 0 0, .slice none 0 0, .slice none 0 0]
  bx : Blk X q 26 cs
  ok : X.ownsRow (q + 1) 9 1 vK K.length (K.map Value.string)
  o2 : X.ownsRow (q + 1) t2 1 v2 V.length V
  na : ∀ k, vK.ownBlock = some k → ¬ v2.ownBlock = some k
  pl : p < w.heap.size
  qg : w.heap.size < q
  tn : Turn (fun k => k = p) w X
theorem Rdr.tn8 {S : Nat → Prop} {w w' : World} {p at_ er : Nat} {l : List UInt8} (h : Rdr w p l at_ er) (ht : Turn S w w') (hq : ∀ k, S k → p < k) : Rdr w' p l at_ er := by
  obtain ⟨A, cap, h1, h2, h3, h4⟩ := h
  have hlt := h2.lt
  exact ⟨A, cap, h1, h2.turn ht (fun e => by have := hq _ e; omega), h3.below (ht.below (Nat.le_of_lt hlt) (fun k hk => by have := hq _ hk; omega)), h4⟩
variable {w X X' : World} {p a e q : Nat} {l : List UInt8} {cs : List Value} {vK v2 : Value} {K : List ByteArray} {t2 : Nat} {V : List Value}
theorem Fx.gt (h : Fx w X p l a e q cs vK K t2 v2 V) : q < X.heap.size := h.bx.lt
theorem Fx.al {o : Obj} (h : Fx w X p l a e q cs vK K t2 v2 V) (e' : X' = X.alloc o) : Fx w X' p l a e q cs vK K t2 v2 V := by
  have ht := (Turn.refl (fun _ => False) X).alloc o
  subst e'
  exact ⟨h.rd.tn8 ht (fun k hk => hk.elim), h.rb.alloc o, h.bx.alloc o, own_far8 h.ok ht (fun _ _ h => h), own_far8 h.o2 ht (fun _ _ h => h), h.na, h.pl, h.qg, h.tn.alloc o⟩
theorem Fx.drew (h : Fx w X p l a e q cs vK K t2 v2 V) : Fx w X.drew p l a e q cs vK K t2 v2 V := by
  have ht := (Turn.refl (fun _ => False) X).drew
  exact ⟨h.rd.tn8 ht (fun k hk => hk.elim), h.rb.turn ht (fun h => h), h.bx.turn ht (fun h => h), own_far8 h.ok ht (fun _ _ h => h), own_far8 h.o2 ht (fun _ _ h => h), h.na, h.pl, h.qg, h.tn.drew⟩
theorem Fx.call {a' e' : Nat} (h : Fx w X p l a e q cs vK K t2 v2 V) (hr : Rdr X' p l a' e') (ht : Turn (fun k => k = p) X X') : Fx w X' p l a' e' q cs vK K t2 v2 V := by
  have hp := h.pl
  have hqg := h.qg
  exact ⟨hr, h.rb.turn ht (by omega), h.bx.turn ht (by omega), own_far8 h.ok ht (fun k hk e => by have := own_blk8 h.ok k hk; omega), own_far8 h.o2 ht (fun k hk e => by have := own_blk8 h.o2 k hk; omega), h.na, h.pl, h.qg, h.tn.trans ht⟩
theorem Fx.appK {v' : Value} {s : ByteArray} (h : Fx w X p l a e q cs vK K t2 v2 V) (ho : X'.ownsRow (q + 1) 9 1 v' (K.length + 1) ((K ++ [s]).map Value.string)) (ht : Turn (fun k => vK.ownBlock = some k) X X') (hv : v'.ownBlock = vK.ownBlock ∨ v'.ownBlock = some X.heap.size) :
    Fx w X' p l a e q cs v' (K ++ [s]) t2 v2 V := by
  have hb := own_blk8 h.ok
  have hp := h.pl
  have hqg := h.qg
  refine ⟨h.rd.tn8 ht (fun k hk => by have := hb k hk; omega), h.rb.turn ht (fun hk => by have := hb _ hk; omega), h.bx.turn ht (fun hk => by have := hb _ hk; omega), by simpa using ho, own_far8 h.o2 ht (fun k hk hk2 => h.na k hk2 hk), fun k hk hk2 => ?_, h.pl, h.qg, h.tn.trans_new ht (fun k hk hk2 => by have := hb k hk2; omega)⟩
  rcases hv with hv | hv
  · rw [hv] at hk; exact h.na k hk hk2
  · rw [hv] at hk; injection hk with hk; have := own_blk8 h.o2 k hk2; omega
theorem Fx.app2 {v' : Value} {u : Value} (h : Fx w X p l a e q cs vK K t2 v2 V) (ho : X'.ownsRow (q + 1) t2 1 v' (V.length + 1) (V ++ [u])) (ht : Turn (fun k => v2.ownBlock = some k) X X') (hv : v'.ownBlock = v2.ownBlock ∨ v'.ownBlock = some X.heap.size) :
    Fx w X' p l a e q cs vK K t2 v' (V ++ [u]) := by
  have hb := own_blk8 h.o2
  have hp := h.pl
  have hqg := h.qg
  refine ⟨h.rd.tn8 ht (fun k hk => by have := hb k hk; omega), h.rb.turn ht (fun hk => by have := hb _ hk; omega), h.bx.turn ht (fun hk => by have := hb _ hk; omega), own_far8 h.ok ht (fun k hk hk2 => h.na k hk hk2), by simpa using ho, fun k hk hk2 => ?_, h.pl, h.qg, h.tn.trans_new ht (fun k hk hk2 => by have := hb k hk2; omega)⟩
  rcases hv with hv | hv
  · rw [hv] at hk2; exact h.na k hk hk2
  · rw [hv] at hk2; injection hk2 with hk2; have := own_blk8 h.ok k hk; omega
theorem Fx.put (h : Fx w X p l a e q cs vK K t2 v2 V) (j : Nat) (v : Value) (e' : X' = X.setCell ⟨q, j, none⟩ v) : Fx w X' p l a e q (cs.set j v) vK K t2 v2 V := by
  have ht := (Turn.refl (fun k => k = q) X).setCell (p := ⟨q, j, none⟩) (.inl rfl) v
  have hp := h.pl
  have hqg := h.qg
  have hg := h.gt
  subst e'
  exact ⟨h.rd.tn8 ht (fun k hk => by omega), h.rb.turn ht (by omega), h.bx.put j v, own_far8 h.ok ht (fun k hk e => by have := own_blk8 h.ok k hk; omega), own_far8 h.o2 ht (fun k hk e => by have := own_blk8 h.o2 k hk; omega), h.na, h.pl, h.qg, h.tn.trans_new ht (fun k hk e => by omega)⟩
theorem Fx.cU8 (h : Fx w X p l a e q cs vK K t2 v2 V) (v a' e' : Nat) (hq : rw_ 1 l a e = (v, a', e')) :
    Calls Try.prog 26 #[.pointer (some ⟨p, 0, none⟩)] X fun x X' => ∃ u, x = .returned u ∧ (u = .int .i64 v ∧ Fx w X' p l a' e' q cs vK K t2 v2 V) :=
  (get8_any p l a e v a' e' hq X h.rd).mono fun x X' ⟨h1, h2, h3⟩ => ⟨_, h1, rfl, h.call h2 h3⟩
theorem Fx.cU16 (h : Fx w X p l a e q cs vK K t2 v2 V) (v a' e' : Nat) (hq : rw_ 2 l a e = (v, a', e')) :
    Calls Try.prog 27 #[.pointer (some ⟨p, 0, none⟩)] X fun x X' => ∃ u, x = .returned u ∧ (u = .int .i64 v ∧ Fx w X' p l a' e' q cs vK K t2 v2 V) :=
  (get16_any p l a e v a' e' hq X h.rd).mono fun x X' ⟨h1, h2, h3⟩ => ⟨_, h1, rfl, h.call h2 h3⟩
theorem Fx.cU32 (h : Fx w X p l a e q cs vK K t2 v2 V) (v a' e' : Nat) (hq : rw_ 4 l a e = (v, a', e')) :
    Calls Try.prog 28 #[.pointer (some ⟨p, 0, none⟩)] X fun x X' => ∃ u, x = .returned u ∧ (u = .int .i64 v ∧ Fx w X' p l a' e' q cs vK K t2 v2 V) :=
  (get32_any p l a e v a' e' hq X h.rd).mono fun x X' ⟨h1, h2, h3⟩ => ⟨_, h1, rfl, h.call h2 h3⟩
theorem Fx.cErr (h : Fx w X p l a e q cs vK K t2 v2 V) :
    Calls Try.prog 30 #[.pointer (some ⟨p, 0, none⟩)] X fun x X' => x = .returned (.int .i64 e) ∧ X = X' := er_any p l a e X h.rd
theorem Fx.cText (h : Fx w X p l a e q cs vK K t2 v2 V) (n : Nat) (hn : n ≤ 70000) :
    Calls Try.prog 29 #[.pointer (some ⟨p, 0, none⟩), .int .i64 n] X fun x X' => ∃ u, x = .returned u ∧ (∃ (bs : List UInt8) (a' e' : Nat), u = .string ⟨bs.toArray⟩ ∧ bs.length = n ∧ Rt8 l a e n bs a' e' ∧ Fx w X' p l a' e' q cs vK K t2 v2 V) :=
  (text8_any p l a e n X h.rd hn).mono fun x X' ⟨bs, h1, h2, a', e', h3, h4, h5⟩ => ⟨_, h1, bs, a', e', rfl, h2, h4, h.call h3 h5⟩
end Go.Proofs.Ytcmghbglnkfbaaa
