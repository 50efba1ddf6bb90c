/- Layer 14: the document's Apply, walked. (mkSpG.py) -/
import Derived.Test.YtjkfgbmlhglnfaaSpG
import Derived.Deep.RegionHeld3
namespace Go.Proofs.Ytjkfgbmlhglnfaa
open Go.RowKit
set_option linter.unusedVariables false
set_option linter.unusedSimpArgs false
set_option maxRecDepth 100000

theorem add13_len (L : List Vn) (x : Vn) : (add13 L x).1.length ≤ L.length + 1 := by
  unfold add13
  cases chn L
  · simp
  · cases rt x
    · simp
    · cases L with
      | nil => simp
      | cons y l => simp only [if_true]; split <;> simp
theorem Rc.turn {S : Nat → Prop} {w w' : World} {A : Option Addr} {cs : List Value} (h : Rc w A cs) (ht : Turn S w w') (hf : 0 < cs.length → ∀ ad, A = some ad → ¬ S ad.block) : Rc w' A cs := fun hp => by
  obtain ⟨b, o, rfl, hb, hc⟩ := h hp
  exact ⟨b, o, rfl, Nat.lt_of_lt_of_le hb ht.size, fun j u hj => (World.cell?_of_block (w := w) (a := ⟨b, o + j, none⟩) (ht.block b hb (hf hp _ rfl))).trans (hc j u hj)⟩
/-- Items that lie, and whose versions lie, apart from a block. -/
def Ap14 (g : Nat) (v : Value) (M : List (Itm × Value)) : Prop := (0 < M.length → ∀ b, vb v = some b → b ≠ g) ∧ ∀ p ∈ M, 0 < p.1.vs.length → ∀ b, vb p.2 = some b → b ≠ g
theorem Ix.turn {g : Nat} {w w' : World} {v : Value} {M : List (Itm × Value)} (h : Ix w v M) (ha : Ap14 g v M) (ht : Turn (fun k => k = g) w w') : Ix w' v M := by
  obtain ⟨A, c, rfl, hl, hr, hw⟩ := h
  refine ⟨A, c, rfl, hl, hr.turn ht (fun hp ad e => ?_), fun p hp => (hw p hp).turn ht (fun h b hb => ha.2 p hp h b hb)⟩
  rw [flat_len ic_len] at hp
  subst e
  exact ha.1 (by omega) _ rfl
theorem Ix.ap {w : World} {v : Value} {M : List (Itm × Value)} (h : Ix w v M) {g : Nat} (hg : w.heap.size ≤ g) : Ap14 g v M := by
  obtain ⟨A, c, rfl, hl, hr, hw⟩ := h
  refine ⟨fun hp b hb => ?_, fun p hp h b hb => ?_⟩
  · obtain ⟨b', o, rfl, hb', _⟩ := hr (by rw [flat_len ic_len]; omega)
    have hb2 : some b' = some b := hb
    cases hb2
    omega
  · obtain ⟨b', e, hb'⟩ := (hw p hp).at_ h
    rw [hb] at e
    cases e
    omega
end Go.Proofs.Ytjkfgbmlhglnfaa
/- Layer 14: pairs; the document's Scan. -/
namespace Go.Proofs.Ytjkfgbmlhglnfaa
open Go.RowKit
set_option linter.unusedVariables false
set_option linter.unusedSimpArgs false
set_option maxRecDepth 100000

/-- A pair: a key, its value. -/
structure Pq2 where
  k : ByteArray
  v : ByteArray
def pc2 (p : Pq2) : List Value := [.string p.k, .string p.v]
theorem pc2_len (p : Pq2) : (pc2 p).length = 2 := rfl
theorem pc2_one (L : List Pq2) : ∀ u ∈ L.flatMap pc2, u.oneCell' = true := fun u hu => by
  obtain ⟨p, _, hx⟩ := List.mem_flatMap.1 hu
  simp [pc2] at hx
  rcases hx with rfl | rfl <;> rfl
/-- Pairs that a slice holds. -/
def Px (w : World) (v : Value) (L : List Pq2) : Prop := ∃ A c, v = .slice A L.length c ∧ L.length ≤ 9223372036854775807 ∧ Rc w A (L.flatMap pc2)
theorem Px.still {w w' : World} {v : Value} {L : List Pq2} (h : Px w v L) (ht : Turn (fun _ => False) w w') : Px w' v L := by
  obtain ⟨A, c, e, hl, hr⟩ := h
  exact ⟨A, c, e, hl, hr.still ht⟩
/-- A row of pairs of the call's own. -/
def Po (B : Nat) (w : World) (v : Value) (L : List Pq2) : Prop := w.ownsRow B 42 2 v L.length (L.flatMap pc2)
theorem Po.px {B : Nat} {w : World} {v : Value} {L : List Pq2} (h : Po B w v L) (hl : L.length ≤ 9223372036854775807) : Px w v L := by
  obtain ⟨A, c, rfl⟩ := own_slice_ h
  exact ⟨A, c, rfl, hl, rc_own h⟩
theorem Po.still {B : Nat} {w w' : World} {v : Value} {L : List Pq2} (h : Po B w v L) (ht : Turn (fun _ => False) w w') : Po B w' v L := own_still_ h ht
theorem po_nil (B : Nat) (w : World) : Po B w (.slice none 0 0) [] := ⟨rfl, .inl ⟨rfl, rfl⟩⟩
theorem info_pq2 : (Try.prog.info? 42).map (fun i => (i.zero, i.size, i.bytes)) = some (some (.agg #[.string ByteArray.empty, .string ByteArray.empty]), 2, 32) := by kernel_rfl
theorem wpList_app1p {w : World} {ops : Array Oper} {rest : List Oper} {o : Oper} {a : Act} {Q : Exit → Act → World → Prop} (hgd : o.guard = none) (x y : Operand)
    (ho : o.op = .call { callee := .builtin .append, args := #[x, y], argTypes := #[23, 23] })
    (B : Nat) (v : Value) (L : List Pq2) (n q : Nat) (z : Pq2) (hx : a.eval x = v) (hn : L.length = n) (hown : Po B w v L) (hy : a.eval y = .slice (some ⟨q, 0, none⟩) 1 1) (hq : Blk w q 42 (pc2 z)) (hb : n ≤ 100000000) (hB : B ≤ w.heap.size)
    (h : ∀ A' c' w', Po B w' (.slice A' (n + 1) c') (L ++ [z]) → Turn (fun k => v.ownBlock = some k) w w' → wpList Try.prog ops Q rest (a.put o.dst (.slice A' (n + 1) c')) w') : wpList Try.prog ops Q (o :: rest) a w := by
  subst hn
  refine wpList_app_rc hgd x y 23 ho B 42 _ 2 32 Try.underlying23 info_pq2 rfl (by decide) v L.length (L.flatMap pc2) hx hown (some ⟨q, 0, none⟩) 1 1 (pc2 z) hy rfl hq.rc (fun u hu => by simp [pc2] at hu; rcases hu with rfl | rfl <;> rfl) (by unfold maxLen; omega) (by omega) hB ?_
  intro A' c' w' h1 h2 _
  refine h A' c' w' ?_ h2
  unfold Po
  rw [List.length_append, List.flatMap_append, List.length_singleton, List.flatMap_singleton]
  exact h1
theorem own_mono9 {B C t s n : Nat} {w : World} {v : Value} {xs : List Value} (h : w.ownsRow C t s v n xs) (hB : B ≤ C) : w.ownsRow B t s v n xs := by
  obtain ⟨hl, ⟨e, h0⟩ | ⟨g, cap, cur, e, hC, hr⟩⟩ := h
  · exact ⟨hl, .inl ⟨e, h0⟩⟩
  · exact ⟨hl, .inr ⟨g, cap, cur, e, Nat.le_trans hB hC, hr⟩⟩
def scs (a b : ByteArray) (t most : Int) (out : List Pq2) (p : Itm × Value) : List Pq2 :=
  if (at13 p.1.vs t).2 && (win p.1.k a b && (decide (most < 0) || decide ((out.length : Int) < most))) then out ++ [⟨p.1.k, (at13 p.1.vs t).1⟩] else out
def scl (M : List (Itm × Value)) (a b : ByteArray) (t most : Int) : List Pq2 := M.foldl (scs a b t most) []
end Go.Proofs.Ytjkfgbmlhglnfaa
/- Layer 14: the document's Apply, where it refuses; rows of pairs compared. -/
namespace Go.Proofs.Ytjkfgbmlhglnfaa
open Go.RowKit
set_option linter.unusedVariables false
set_option linter.unusedSimpArgs false
set_option maxRecDepth 100000

theorem Rc.pair {w : World} {A : Option Addr} {L : List Pq2} (h : Rc w A (L.flatMap pc2)) (hp : 0 < L.length) : ∃ b o, A = some ⟨b, o, none⟩ ∧ b < w.heap.size ∧ ∀ X, Turn (fun _ => False) w X → ∀ j x, L[j]? = some x → X.cell? ⟨b, o + j * 2, none⟩ = some (.string x.k) ∧ X.cell? ⟨b, o + j * 2 + 1, none⟩ = some (.string x.v) := by
  obtain ⟨b, o, e, hb, hc⟩ := h (by rw [flat_len pc2_len]; omega)
  refine ⟨b, o, e, hb, fun X hX j p hj => ?_⟩
  have hk : ∀ j, X.cell? ⟨b, j, none⟩ = w.cell? ⟨b, j, none⟩ := fun j => World.cell?_of_block (w := w) (a := ⟨b, j, none⟩) (hX.block b hb (fun h => h))
  rw [hk, hk, Nat.add_assoc]
  exact ⟨hc _ _ (flat_at pc2_len L j 0 p hj (by decide)), hc _ _ (flat_at pc2_len L j 1 p hj (by decide))⟩
set_option maxHeartbeats 4000000 in
theorem refSame10 (L : List Pq2) (v1 v2 : Value) (w : World) (h1 : Px w v1 L) (h2 : Px w v2 L) :
    Calls Try.prog 14 #[v1, v2] w fun e w' => e = .returned (.bool true) ∧ Turn (fun _ => False) w w' := by
  obtain ⟨A1, c1, rfl, hl, hr1⟩ := h1
  obtain ⟨A2, c2, rfl, _, hr2⟩ := h2
  obtain ⟨n, hn⟩ : ∃ n, L.length = n := ⟨_, rfl⟩
  have HN := Lib.hid hn
  have HR1 := Lib.hid hr1
  have HR2 := Lib.hid hr2
  rw [hn] at hl ⊢
  clear hn hr1 hr2
  go_enter Try.func14, Try.ntmps14
  go_wp2_with fail
  go_loopw [5] (fun v5 wr => ∃ i : Nat, i ≤ n ∧ v5 = .int .i64 i ∧ Turn (fun _ => False) w wr) (fun v5 _ => n - (intOf v5).toNat)
  case atStart => exact ⟨0, Nat.zero_le _, rfl, Turn.refl _ _⟩
  case round =>
    obtain ⟨i, hi, rfl, ht⟩ := hrel
    obtain ⟨wx, rfl⟩ : ∃ W, W = wr := ⟨_, rfl⟩
    have TT := Lib.hid ht
    clear ht
    by_cases hlt : i < n
    · have hlb1 : (i : Int) < (n : Int) := by omega
      have hlb0 : (0 : Int) ≤ (i : Int) := by omega
      have hq := wrap_of ((i : Int) + 1) (by omega) (by omega)
      obtain ⟨x, hx⟩ : ∃ x, L[i]? = some x := ⟨_, List.getElem?_eq_getElem (by rw [HN.out]; exact hlt)⟩
      obtain ⟨b1, o1, rfl, hb1, hc1⟩ := HR1.out.pair (by rw [HN.out]; omega)
      obtain ⟨b2, o2, rfl, hb2, hc2⟩ := HR2.out.pair (by rw [HN.out]; omega)
      obtain ⟨c10, c11⟩ := hc1 wx TT.out i x hx
      obtain ⟨c20, c21⟩ := hc2 wx TT.out i x hx
      obtain ⟨xk, xv⟩ := x
      simp only at c10 c11 c20 c21
      have hss : (xk.toList == xk.toList) = true := by simp
      have hsv : (xv.toList == xv.toList) = true := by simp
      clear hx hb1 hb2 hc1 hc2
      go_wp2_with fail
      go_quiet (fail)
      go_wp2_with fail
      go_roundw
      case rel => exact ⟨i + 1, by omega, by simp [hq], by first | exact TT.out.drewN _ | exact TT.out⟩
      case measure => simp [intOf, hq]; omega
    · obtain rfl : i = n := by omega
      go_wp2_with fail
      go_ret
      exact ⟨rfl, TT.out⟩
end Go.Proofs.Ytjkfgbmlhglnfaa
