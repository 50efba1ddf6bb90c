/- Layer 4: eight rows of texts that a walk gathers, each in a row of its own. -/
import Derived.Test.YtdpjjdkfjecihaaBlockSureW
namespace Go.Proofs.Ytdpjjdkfjecihaa
open Go.RowKit Go.Maps
set_option linter.unusedVariables false

def strv (l : List UInt8) : Value := .string ⟨l.toArray⟩
structure May (B : Nat) (w : World) (gy : Nat) (vs : List Value) (Ms : List (List (List UInt8))) : Prop where
  blk : Blk w gy 27 vs
  len : vs.length = 8
  lenM : Ms.length = 8
  own : ∀ (i : Nat) (v : Value) (M : List (List UInt8)), vs[i]? = some v → Ms[i]? = some M → w.ownsRow B 9 1 v M.length (M.map strv)
  apart : ∀ (i j : Nat) (v u : Value) (b : Nat), i ≠ j → vs[i]? = some v → vs[j]? = some u → v.ownBlock = some b → u.ownBlock ≠ some b
  far : ∀ (i : Nat) (v : Value), vs[i]? = some v → v.ownBlock ≠ some gy
/-- None of these rows lies in S. -/
def Aside_ (S : Nat → Prop) (gy : Nat) (vs : List Value) : Prop := ¬ S gy ∧ ∀ (i : Nat) (v : Value) (b : Nat), vs[i]? = some v → v.ownBlock = some b → ¬ S b
theorem May.lt {B : Nat} {w : World} {gy : Nat} {vs : List Value} {Ms : List (List (List UInt8))} (h : May B w gy vs Ms) {i b : Nat} {v : Value} (hv : vs[i]? = some v) (hb : v.ownBlock = some b) : B ≤ b ∧ b < w.heap.size := by
  have hi : i < Ms.length := by rw [h.lenM, ← h.len]; exact (List.getElem?_eq_some_iff.1 hv).1
  exact (h.own i v _ hv (List.getElem?_eq_getElem hi)).lt b hb
theorem May.turn {B : Nat} {w w' : World} {gy : Nat} {vs : List Value} {Ms : List (List (List UInt8))} {T : Nat → Prop} (h : May B w gy vs Ms) (ht : Turn T w w') (h1 : ¬ T gy) (h2 : ∀ (i : Nat) (v : Value) (b : Nat), vs[i]? = some v → v.ownBlock = some b → ¬ T b) : May B w' gy vs Ms :=
  ⟨h.blk.turn ht h1, h.len, h.lenM, fun i v M hv hM => ownsRow_turn (h.own i v M hv hM) ht (fun k hk => h2 i v k hv hk), h.apart, h.far⟩
theorem May.still {B : Nat} {w w' : World} {gy : Nat} {vs : List Value} {Ms : List (List (List UInt8))} (h : May B w gy vs Ms) (ht : Turn (fun _ => False) w w') : May B w' gy vs Ms := h.turn ht (fun h => h) (fun _ _ _ _ _ h => h)
theorem May.step {B : Nat} {a b : World} {gy : Nat} {vs : List Value} {Ms : List (List (List UInt8))} {S S' : Nat → Prop} (h : May B a gy vs Ms) (ha : Aside_ S gy vs) (hs : Stp S a S' b) : May B b gy vs Ms ∧ Aside_ S' gy vs :=
  ⟨h.turn hs.1 ha.1 ha.2, fun hk => (hs.2 gy hk).elim ha.1 (fun e => by have := h.blk.lt; omega), fun i v k hv hb hk => (hs.2 k hk).elim (ha.2 i v k hv hb) (fun e => by have := (h.lt hv hb).2; omega)⟩
/-- A text more in row i. -/
theorem may_push {B : Nat} {W w6 : World} {gy : Nat} {vs : List Value} {Ms : List (List (List UInt8))} {S : Nat → Prop} (h : May B W gy vs Ms) (ha : Aside_ S gy vs) (hS : ∀ k, S k → k < W.heap.size) {i : Nat} {v : Value} {M : List (List UInt8)} (hv : vs[i]? = some v) (hM : Ms[i]? = some M)
    (l : List UInt8) (o : Obj) {g cap : Nat} (hB : B ≤ W.heap.size) (ho : w6.ownsRow B 9 1 (.slice (some ⟨g, 0, none⟩) (M.length + 1) cap) (M.length + 1) (M.map strv ++ [strv l])) (hg : Turn (fun k => v.ownBlock = some k) (W.drew.alloc o) w6) (hl : v.ownBlock = some g ∨ g = W.heap.size + 1) :
    May B (w6.setCell ⟨gy, i, none⟩ (.slice (some ⟨g, 0, none⟩) (M.length + 1) cap)) gy (vs.set i (.slice (some ⟨g, 0, none⟩) (M.length + 1) cap)) (Ms.set i (M ++ [l])) ∧
    Aside_ S gy (vs.set i (.slice (some ⟨g, 0, none⟩) (M.length + 1) cap)) ∧
    Turn (fun k => k = gy ∨ v.ownBlock = some k) W (w6.setCell ⟨gy, i, none⟩ (.slice (some ⟨g, 0, none⟩) (M.length + 1) cap)) := by
  have hgy := h.blk.lt
  have hi : i < 8 := by have := (List.getElem?_eq_some_iff.1 hv).1; rw [h.len] at this; exact this
  have t1 : Turn (fun k => k = gy ∨ v.ownBlock = some k) W w6 := ((Turn.refl _ _).drew.alloc o).trans_new hg (fun k _ e => .inr e)
  have hgne : g ≠ gy := by
    rcases hl with e | e
    · intro e2; exact h.far i v hv (e2 ▸ e)
    · omega
  have hoth : ∀ (j : Nat) (u : Value), j ≠ i → vs[j]? = some u → u.ownBlock ≠ some g := by
    intro j u hj hu e
    rcases hl with e2 | e2
    · exact h.apart i j v u g (Ne.symm hj) hv hu e2 e
    · have := (h.lt hu e).2; omega
  have hset : ∀ (j : Nat) (u : Value), (vs.set i (.slice (some ⟨g, 0, none⟩) (M.length + 1) cap))[j]? = some u → (j = i ∧ u = .slice (some ⟨g, 0, none⟩) (M.length + 1) cap) ∨ (j ≠ i ∧ vs[j]? = some u) := by
    intro j u hu
    rw [List.getElem?_set] at hu
    by_cases e : i = j
    · subst e; rw [if_pos rfl] at hu; split at hu
      · left; exact ⟨rfl, by injection hu with hu; exact hu.symm⟩
      · cases hu
    · rw [if_neg e] at hu; exact .inr ⟨Ne.symm e, hu⟩
  have tp : Turn (· = gy) w6 (w6.setCell ⟨gy, i, none⟩ (.slice (some ⟨g, 0, none⟩) (M.length + 1) cap)) := turn_p gy i _
  refine ⟨⟨?_, by simpa using h.len, by simpa using h.lenM, ?_, ?_, ?_⟩, ⟨ha.1, ?_⟩, t1.setCell (p := ⟨gy, i, none⟩) (.inl (.inl rfl)) _⟩
  · exact ((h.blk.drew.alloc o).turn hg (h.far i v hv)).put i _
  · intro j u N hu hN
    rcases hset j u hu with ⟨rfl, rfl⟩ | ⟨hj, hu'⟩
    · rw [List.getElem?_set, if_pos rfl, if_pos (by rw [h.lenM]; exact hi)] at hN
      injection hN with hN
      subst hN
      have := ownsRow_turn ho tp (fun k hk e => hgne (by simp [Value.ownBlock] at hk; omega))
      simpa using this
    · rw [List.getElem?_set, if_neg (Ne.symm hj)] at hN
      have h1 := ownsRow_turn (h.own j u N hu' hN) ((Turn.refl (fun _ => False) _).drew.alloc o) (fun _ _ h => h)
      have h2 := ownsRow_turn h1 hg (fun k hk e => h.apart j i u v k hj hu' hv hk e)
      exact ownsRow_turn h2 tp (fun k hk e => h.far j u hu' (e ▸ hk))
  · intro j k u x b hjk hu hx hub hxb
    rcases hset j u hu with ⟨rfl, rfl⟩ | ⟨hj, hu'⟩
    · rcases hset k x hx with ⟨rfl, rfl⟩ | ⟨hk, hx'⟩
      · exact hjk rfl
      · simp only [Value.ownBlock] at hub
        injection hub with hub
        exact hoth k x hk hx' (hub ▸ hxb)
    · rcases hset k x hx with ⟨rfl, rfl⟩ | ⟨hk, hx'⟩
      · simp only [Value.ownBlock] at hxb
        injection hxb with hxb
        exact hoth j u hj hu' (hxb ▸ hub)
      · exact h.apart j k u x b hjk hu' hx' hub hxb
  · intro j u hu
    rcases hset j u hu with ⟨rfl, rfl⟩ | ⟨hj, hu'⟩
    · simp only [Value.ownBlock]; intro e; injection e with e; exact hgne e
    · exact h.far j u hu'
  · intro j u b hu hb
    rcases hset j u hu with ⟨rfl, rfl⟩ | ⟨hj, hu'⟩
    · simp only [Value.ownBlock] at hb
      injection hb with hb
      subst hb
      rcases hl with e | e
      · exact ha.2 _ v g hv e
      · intro hk; have := hS g hk; omega
    · exact ha.2 j u b hu' hb
/-- What stands in the rows: of each sector what is kept, and what each pending write wrote. -/
structure Wh (Ms : List (List (List UInt8))) (D : Dsk) : Prop where
  n : D.kept.length = 8
  alive : D.dead = false
  fuse : D.fuse = -1
  kept : ∀ (i : Nat) (M : List (List UInt8)), Ms[i]? = some M → i < 8 → D.kept.getD i [] ∈ M
  pend : ∀ x ∈ D.pend, ∀ (M : List (List UInt8)), Ms[x.1]? = some M → x.2 ∈ M
theorem wh_burnt {D : Dsk} (h : D.fuse = -1) : D.burnt = D := by
  unfold Dsk.burnt
  rw [if_neg (by omega), if_neg (by omega)]
theorem wh_write {Ms : List (List (List UInt8))} {D : Dsk} (h : Wh Ms D) (m : Nat) (hm : m < 8) (l : List UInt8) (hl : l.length ≤ 128) {M : List (List UInt8)} (hM : Ms[m]? = some M) (hlen : Ms.length = 8) :
    D.write m l = (D.wrote m l, 0) ∧ (D.wrote m l).has m = full l ∧ (D.wrote m l).kept.length = 8 ∧ (D.wrote m l).dead = false ∧ (D.wrote m l).pend.length = D.pend.length + 1 ∧ Wh (Ms.set m (M ++ [full l])) (D.wrote m l) := by
  have hb := wh_burnt h.fuse
  have e : (D.wrote m l) = { D with pend := D.pend ++ [(m, full l)] } := by unfold Dsk.wrote; rw [hb]
  refine ⟨?_, ?_, by rw [e]; exact h.n, by rw [e]; exact h.alive, by rw [e]; simp, ?_⟩
  · unfold Dsk.write
    have := h.n
    rw [h.alive, if_neg (by simp), if_neg (by omega), if_neg (by omega), if_neg (by have := h.fuse; omega), Int.toNat_natCast]
  · rw [e]
    unfold Dsk.has
    simp only
    rw [overw_snoc, if_pos rfl]
  · rw [e]
    have hset : ∀ (i : Nat) (N : List (List UInt8)), (Ms.set m (M ++ [full l]))[i]? = some N → (i = m ∧ N = M ++ [full l]) ∨ (i ≠ m ∧ Ms[i]? = some N) := by
      intro i N hN
      rw [List.getElem?_set] at hN
      by_cases e : m = i
      · subst e; rw [if_pos rfl, if_pos (by omega)] at hN
        exact .inl ⟨rfl, by injection hN with hN; exact hN.symm⟩
      · rw [if_neg e] at hN; exact .inr ⟨Ne.symm e, hN⟩
    refine ⟨h.n, h.alive, h.fuse, fun i N hN hi => ?_, fun x hx N hN => ?_⟩
    · rcases hset i N hN with ⟨rfl, rfl⟩ | ⟨_, hN'⟩
      · exact List.mem_append_left _ (h.kept _ M hM hi)
      · exact h.kept i N hN' hi
    · simp only [List.mem_append, List.mem_singleton] at hx
      rcases hx with hx | rfl
      · rcases hset x.1 N hN with ⟨e, rfl⟩ | ⟨_, hN'⟩
        · exact List.mem_append_left _ (h.pend x hx M (e ▸ hM))
        · exact h.pend x hx N hN'
      · rcases hset m N hN with ⟨_, rfl⟩ | ⟨e, _⟩
        · simp
        · exact absurd rfl e
theorem wh_big {Ms : List (List (List UInt8))} {D : Dsk} (h : Wh Ms D) (m : Nat) (hm : m < 8) (l : List UInt8) (hl : 128 < l.length) : D.write m l = (D, 5) := by
  have := h.n
  unfold Dsk.write
  rw [h.alive, if_neg (by simp), if_neg (by omega), if_pos hl]
theorem overw_mem (l : List (Nat × List UInt8)) (i : Nat) (s : List UInt8) : overw l i s = s ∨ ∃ x ∈ l, x.1 = i ∧ x.2 = overw l i s := by
  induction l using snoc_ind with
  | h0 => exact .inl rfl
  | h1 l x ih =>
    rw [overw_snoc]
    split
    · rename_i e; exact .inr ⟨x, by simp, e, rfl⟩
    · rcases ih with h | ⟨y, hy, h1, h2⟩
      · exact .inl h
      · exact .inr ⟨y, by simp [hy], h1, h2⟩
theorem wh_crash {Ms : List (List (List UInt8))} {D : Dsk} (h : Wh Ms D) (ks : List Int) (i : Nat) (hi : i < 8) {M : List (List UInt8)} (hM : Ms[i]? = some M) : (D.crashed ks).has i ∈ M := by
  have e : (D.crashed ks).has i = overw (sel D.pend (isIn ks)) i (D.kept.getD i []) := by
    unfold Dsk.has
    show overw [] i ((D.keepAll (sel D.pend (isIn ks))).kept.getD i []) = _
    rw [keepAll_at _ _ i (by rw [h.n]; exact hi)]
    rfl
  rw [e]
  rcases overw_mem (sel D.pend (isIn ks)) i (D.kept.getD i []) with h1 | ⟨x, hx, h1, h2⟩
  · rw [h1]; exact h.kept i M hM hi
  · rw [← h2]; exact h.pend x (sel_mem hx) M (by rw [h1]; exact hM)
end Go.Proofs.Ytdpjjdkfjecihaa
