/- Layer 13: the document's Rewind, Vacuum, Add. -/
import Derived.Test.YtjkfgbmlhglnfaaVcC
import Derived.Test.YtjkfgbmlhglnfaaAppG
namespace Go.Proofs.Ytjkfgbmlhglnfaa
open Go.RowKit
set_option linter.unusedVariables false
set_option linter.unusedSimpArgs false
set_option maxRecDepth 100000

theorem vc_len (x : Vn) : (vc x).length = 3 := rfl
theorem vc_one (x : Vn) : ∀ u ∈ vc x, u.oneCell' = true := fun u hu => by
  simp [vc] at hu; rcases hu with rfl | rfl | rfl <;> rfl
theorem vcs_one (L : List Vn) : ∀ u ∈ L.flatMap vc, u.oneCell' = true := fun u hu => by
  obtain ⟨x, _, hx⟩ := List.mem_flatMap.1 hu; exact vc_one x u hx
theorem info_vn : (Try.prog.info? 83).map (fun i => (i.zero, i.size, i.bytes)) = some (some (.agg #[.int .i64 0, .string ByteArray.empty, .bool false]), 3, 32) := by kernel_rfl
/-- A row of versions of the call's own. -/
def Vo (B : Nat) (w : World) (v : Value) (L : List Vn) : Prop := w.ownsRow B 83 3 v L.length (L.flatMap vc)
theorem vr_of {w : World} {A : Option Addr} {c : Nat} {L : List Vn} (h : Rc w A (L.flatMap vc)) (hl : L.length ≤ 9223372036854775807) : Vr w (.slice A L.length c) L := by
  refine ⟨A, c, rfl, hl, fun hp => ?_⟩
  obtain ⟨b, o, e, hb, hc⟩ := h (by rw [flat_len vc_len]; omega)
  refine ⟨b, o, e, hb, fun j x hj => ⟨?_, ?_, ?_⟩⟩
  · exact hc (j * 3) _ ((flat_at vc_len L j 0 x hj (by decide)))
  · rw [Nat.add_assoc]; exact hc (j * 3 + 1) _ ((flat_at vc_len L j 1 x hj (by decide)))
  · rw [Nat.add_assoc]; exact hc (j * 3 + 2) _ ((flat_at vc_len L j 2 x hj (by decide)))
theorem Vo.vr {B : Nat} {w : World} {v : Value} {L : List Vn} (h : Vo B w v L) (hl : L.length ≤ 9223372036854775807) : Vr w v L := by
  obtain ⟨A, c, rfl⟩ := own_slice_ h
  exact vr_of (rc_own h) hl
theorem Vr.rc {w : World} {A : Option Addr} {n c : Nat} {L : List Vn} (h : Vr w (.slice A n c) L) : Rc w A (L.flatMap vc) := fun hp => by
  obtain ⟨A', c', e, hl, hr⟩ := h
  injection e with e1 e2 e3
  subst e1
  rw [flat_len vc_len] at hp
  obtain ⟨b, o, e4, hb, hc⟩ := hr (by omega)
  refine ⟨b, o, e4, hb, fun j u hu => ?_⟩
  have hj : j < L.length * 3 := by
    rw [← flat_len vc_len]
    rcases Nat.lt_or_ge j (L.flatMap vc).length with h1 | h1
    · exact h1
    · rw [List.getElem?_eq_none h1] at hu; cases hu
  obtain ⟨x, hx⟩ : ∃ x, L[j / 3]? = some x := ⟨_, List.getElem?_eq_getElem (by omega)⟩
  have h3 := flat_at vc_len L (j / 3) (j % 3) x hx (by omega)
  rw [show j / 3 * 3 + j % 3 = j by omega] at h3
  rw [h3] at hu
  obtain ⟨h0, h1, h2⟩ := hc (j / 3) x hx
  rcases (show j % 3 = 0 ∨ j % 3 = 1 ∨ j % 3 = 2 by omega) with hm | hm | hm
  · rw [hm] at hu; cases hu
    rw [show o + j = o + j / 3 * 3 by omega]; exact h0
  · rw [hm] at hu; cases hu
    rw [show o + j = o + j / 3 * 3 + 1 by omega]; exact h1
  · rw [hm] at hu; cases hu
    rw [show o + j = o + j / 3 * 3 + 2 by omega]; exact h2
theorem Vo.still {B : Nat} {w w' : World} {v : Value} {L : List Vn} (h : Vo B w v L) (ht : Turn (fun _ => False) w w') : Vo B w' v L := by
  obtain ⟨hl, ⟨e, h0⟩ | ⟨g, cap, cur, e, hB, hh, hn, hc, hs, htk⟩⟩ := h
  · exact ⟨hl, .inl ⟨e, h0⟩⟩
  · exact ⟨hl, .inr ⟨g, cap, cur, e, hB, (ht.block g (Array.getElem?_eq_some_iff.1 hh).1 (fun h => h)).trans hh, hn, hc, hs, htk⟩⟩
theorem own_ge9 {w : World} {base t s n : Nat} {v : Value} {xs : List Value} (h : w.ownsRow base t s v n xs) : ∀ k, v.ownBlock = some k → base ≤ k ∧ k < w.heap.size := fun k hk => by
  rcases h.2 with ⟨rfl, _⟩ | ⟨g, cap, cur, rfl, hB, hh, _⟩
  · simp [Value.ownBlock] at hk
  · have e : g = k := by unfold Value.ownBlock at hk; simp at hk; exact hk
    subst e
    exact ⟨hB, (Array.getElem?_eq_some_iff.1 hh).1⟩
theorem vo_nil (B : Nat) (w : World) : Vo B w (.slice none 0 0) [] := ⟨rfl, .inl ⟨rfl, rfl⟩⟩
theorem wpList_app1v {w : World} {ops : Array Oper} {rest : List Oper} {o : Oper} {a : Act} {Q : Exit → Act → World → Prop} (hgd : o.guard = none) (x y : Operand)
    (ho : o.op = .call { callee := .builtin .append, args := #[x, y], argTypes := #[38, 38] })
    (B : Nat) (v : Value) (L : List Vn) (n q : Nat) (z : Vn) (hx : a.eval x = v) (hn : L.length = n) (hown : Vo B w v L) (hy : a.eval y = .slice (some ⟨q, 0, none⟩) 1 1) (hq : Blk w q 83 (vc z)) (hb : n ≤ 100000000) (hB : B ≤ w.heap.size)
    (h : ∀ A' c' w', Vo B w' (.slice A' (n + 1) c') (L ++ [z]) → Turn (fun k => v.ownBlock = some k) w w' → wpList Try.prog ops Q rest (a.put o.dst (.slice A' (n + 1) c')) w') : wpList Try.prog ops Q (o :: rest) a w := by
  subst hn
  refine wpList_app_rc hgd x y 38 ho B 83 _ 3 32 Try.underlying38 info_vn rfl (by decide) v L.length (L.flatMap vc) hx hown (some ⟨q, 0, none⟩) 1 1 (vc z) hy rfl hq.rc (vc_one z) (by unfold maxLen; omega) (by omega) hB ?_
  intro A' c' w' h1 h2 _
  refine h A' c' w' ?_ h2
  unfold Vo
  rw [List.length_append, List.flatMap_append, List.length_singleton, List.flatMap_singleton]
  exact h1
theorem wpList_appVs {w : World} {ops : Array Oper} {rest : List Oper} {o : Oper} {a : Act} {Q : Exit → Act → World → Prop} (hgd : o.guard = none) (x y : Operand)
    (ho : o.op = .call { callee := .builtin .append, args := #[x, y], argTypes := #[38, 38] })
    (B : Nat) (v : Value) (L M : List Vn) (n m : Nat) (A : Option Addr) (c : Nat) (hx : a.eval x = v) (hn : L.length = n) (hm : M.length = m) (hown : Vo B w v L) (hy : a.eval y = .slice A m c) (hr : Rc w A (M.flatMap vc)) (hb : n + m ≤ 100000000) (hB : B ≤ w.heap.size)
    (h : ∀ A' c' w', Vo B w' (.slice A' (n + m) c') (L ++ M) → Turn (fun k => v.ownBlock = some k) w w' → wpList Try.prog ops Q rest (a.put o.dst (.slice A' (n + m) c')) w') : wpList Try.prog ops Q (o :: rest) a w := by
  subst hn hm
  refine wpList_app_rc hgd x y 38 ho B 83 _ 3 32 Try.underlying38 info_vn rfl (by decide) v L.length (L.flatMap vc) hx hown A M.length c (M.flatMap vc) hy (flat_len vc_len M) hr (vcs_one M) (by unfold maxLen; omega) (by omega) hB ?_
  intro A' c' w' h1 h2 _
  refine h A' c' w' ?_ h2
  unfold Vo
  rw [List.length_append, List.flatMap_append]
  exact h1
def rew13 (L : List Vn) (t : Int) : List Vn := if chn L then L.filter (fun x => decide (x.t ≤ t)) else []
theorem take_filter_next {L : List Vn} {i : Nat} {x : Vn} {p : Vn → Bool} (h : L[i]? = some x) : (L.take (i + 1)).filter p = (L.take i).filter p ++ (if p x then [x] else []) := by
  rw [List.take_add_one, h, List.filter_append]
  cases hp : p x <;> simp [hp]
end Go.Proofs.Ytjkfgbmlhglnfaa
