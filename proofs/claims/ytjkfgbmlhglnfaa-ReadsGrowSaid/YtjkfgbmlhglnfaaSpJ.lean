/- Layer 14: items (a key, its versions); the document's find, kept, Within. -/
import Derived.Test.YtjkfgbmlhglnfaaVcF
import Derived.Test.YtjkfgbmlhglnfaaBlw
import Derived.Deep.RegionHeld3
namespace Go.Proofs.Ytjkfgbmlhglnfaa
open Go.RowKit
set_option linter.unusedVariables false
set_option linter.unusedSimpArgs false
set_option maxRecDepth 100000

structure Itm where
  k : ByteArray
  vs : List Vn
/-- An item's cells: its key, and the slice of its versions. -/
def ic (p : Itm × Value) : List Value := [.string p.1.k, p.2]
def Iw (w : World) (M : List (Itm × Value)) : Prop := ∀ p ∈ M, Vr w p.2 p.1.vs
/-- Items that a slice holds. -/
def Ix (w : World) (v : Value) (M : List (Itm × Value)) : Prop := ∃ A c, v = .slice A M.length c ∧ M.length ≤ 9223372036854775807 ∧ Rc w A (M.flatMap ic) ∧ Iw w M
theorem Iw.still {w w' : World} {M : List (Itm × Value)} (h : Iw w M) (ht : Turn (fun _ => False) w w') : Iw w' M := fun p hp => (h p hp).still ht
theorem Ix.still {w w' : World} {v : Value} {M : List (Itm × Value)} (h : Ix w v M) (ht : Turn (fun _ => False) w w') : Ix w' v M := by
  obtain ⟨A, c, e, hl, hr, hw⟩ := h
  exact ⟨A, c, e, hl, hr.still ht, hw.still ht⟩
theorem ic_len (p : Itm × Value) : (ic p).length = 2 := rfl
/-- What is read of the i-th item. -/
theorem Rc.item {w : World} {A : Option Addr} {M : List (Itm × Value)} (h : Rc w A (M.flatMap ic)) (hp : 0 < M.length) : ∃ b o, A = some ⟨b, o, none⟩ ∧ b < w.heap.size ∧ ∀ X, Turn (fun _ => False) w X → ∀ j p, M[j]? = some p → X.cell? ⟨b, o + j * 2, none⟩ = some (.string p.1.k) ∧ X.cell? ⟨b, o + j * 2 + 1, none⟩ = some p.2 := by
  obtain ⟨b, o, e, hb, hc⟩ := h (by rw [flat_len ic_len]; omega)
  refine ⟨b, o, e, hb, fun X hX j p hj => ?_⟩
  have hk : ∀ j, X.cell? ⟨b, j, none⟩ = w.cell? ⟨b, j, none⟩ := fun j => World.cell?_of_block (w := w) (a := ⟨b, j, none⟩) (hX.block b hb (fun h => h))
  rw [hk, hk, Nat.add_assoc]
  exact ⟨hc _ _ (flat_at ic_len M j 0 p hj (by decide)), hc _ _ (flat_at ic_len M j 1 p hj (by decide))⟩
/-- A space of the document: its items, last, mark. -/
@[go_sem] def spv (v : Value) (last mark : Int) : Value := .agg #[v, .int .i64 last, .int .i64 mark]
def fndk (M : List (Itm × Value)) (key : ByteArray) : List Vn := match M.find? (fun p => p.1.k.toList == key.toList) with
  | some p => p.1.vs
  | none => []
theorem vr_nil (w : World) : Vr w (.slice none 0 0) [] := ⟨none, 0, rfl, by simp, fun h => by simp at h⟩
def kept14 (last mark t : Int) : Int := if t < mark then 12 else if last < t then 13 else 0
theorem below_t (s t : ByteArray) (hs : s.size ≤ 140737488351232) (ht : t.size ≤ 140737488351232) (w : World) :
    Calls Try.prog 57 #[.string s, .string t] w fun e w' => e = .returned (.bool (Op.bytesLess s.data.toList t.data.toList)) ∧ Turn (fun _ => False) w w' :=
  (below_any s t hs ht w).mono fun e w' ⟨h1, h2⟩ => ⟨h1, Turn.of_below h2 (fun k h1 h2 => by omega)⟩
def lt14 (a b : ByteArray) : Bool := Op.bytesLess a.data.toList b.data.toList
def win (key a b : ByteArray) : Bool := !lt14 key a && (b.toList.isEmpty || lt14 key b)
theorem refWithin14 (key a b : ByteArray) (hk : key.size ≤ 140737488351232) (ha : a.size ≤ 140737488351232) (hb : b.size ≤ 140737488351232) (w : World) :
    Calls Try.prog 114 #[.string key, .string a, .string b] w fun e w' => e = .returned (.bool (win key a b)) ∧ Turn (fun _ => False) w w' := by
  have HA := Lib.hid (fun W => below_t key a hk ha W)
  have HB := Lib.hid (fun W => below_t key b hk hb W)
  unfold win
  change Hid (∀ W, Calls Try.prog 57 #[.string key, .string a] W fun e w' => e = .returned (.bool (lt14 key a)) ∧ Turn (fun _ => False) W w') at HA
  change Hid (∀ W, Calls Try.prog 57 #[.string key, .string b] W fun e w' => e = .returned (.bool (lt14 key b)) ∧ Turn (fun _ => False) W w') at HB
  clear hk ha hb
  generalize lt14 key a = r1 at *
  generalize lt14 key b = r2 at *
  cases h3 : b.toList.isEmpty <;> cases r1
  all_goals
    have h3' : (b.toList == []) = b.toList.isEmpty := by cases b.toList <;> rfl
    go_enter Try.func114, Try.ntmps114
    go_wp2_with fail
    refine (HA.out _).mono ?_
    rintro e w1 ⟨rfl, ht1⟩
    have T1 := Lib.hid ht1
    clear ht1
    go_wp2_with fail
    first
      | (refine (HB.out _).mono ?_
         rintro e w2 ⟨rfl, ht2⟩
         have T2 := Lib.hid (T1.out.trans ht2)
         clear ht2
         go_wp2_with fail
         go_ret
         exact ⟨by cases r2 <;> rfl, T2.out⟩)
      | (go_ret; exact ⟨by cases r2 <;> rfl, T1.out⟩)
end Go.Proofs.Ytjkfgbmlhglnfaa
/- Layer 14: the document's Get, Since. -/
namespace Go.Proofs.Ytjkfgbmlhglnfaa
open Go.RowKit
set_option linter.unusedVariables false
set_option linter.unusedSimpArgs false
set_option maxRecDepth 100000

def get14 (M : List (Itm × Value)) (last mark : Int) (key : ByteArray) (t : Int) : ByteArray × Int :=
  if kept14 last mark t = 0 then (if (at13 (fndk M key) t).2 then ((at13 (fndk M key) t).1, 0) else (ByteArray.empty, 7)) else (ByteArray.empty, kept14 last mark t)
def snc14 (M : List (Itm × Value)) (a b : ByteArray) (t : Int) : Bool := M.any (fun p => win p.1.k a b && snc p.1.vs t)
theorem any_at {α : Type} {p : α → Bool} {L : List α} {i : Nat} {x : α} (h : L[i]? = some x) (hp : p x = true) : L.any p = true := List.any_eq_true.2 ⟨x, List.mem_of_getElem? h, hp⟩
theorem any_none_ {α : Type} {p : α → Bool} {L : List α} (h : ∀ (j : Nat) (y : α), j < L.length → L[j]? = some y → p y = false) : L.any p = false := by
  rw [List.any_eq_false]
  intro x hx
  obtain ⟨j, hj⟩ := List.getElem?_of_mem hx
  have hl : j < L.length := by
    rcases Nat.lt_or_ge j L.length with h1 | h1
    · exact h1
    · rw [List.getElem?_eq_none h1] at hj; cases hj
  simp [h j x hl hj]
set_option maxHeartbeats 4000000 in
theorem refSince14 (M : List (Itm × Value)) (v : Value) (last mark : Int) (fa fb : ByteArray) (t : Int) (w : World) (h : Ix w v M) (hks : ∀ p ∈ M, p.1.k.size ≤ 140737488351232) (ha : fa.size ≤ 140737488351232) (hb : fb.size ≤ 140737488351232) :
    Calls Try.prog 79 #[.agg #[v, .int .i64 last, .int .i64 mark], (.string fa), (.string fb), .int .i64 t] w fun e w' => e = .returned (.bool (snc14 M fa fb t)) ∧ Turn (fun _ => False) w w' := by
  obtain ⟨A, c, rfl, hl, hr, hw⟩ := h
  obtain ⟨n, hn⟩ : ∃ n, M.length = n := ⟨_, rfl⟩
  have HN := Lib.hid hn
  have HR := Lib.hid hr
  have HW := Lib.hid hw
  have HKS := Lib.hid hks
  have HWI := Lib.hid (fun (k : ByteArray) (hk : k.size ≤ 140737488351232) W => refWithin14 k fa fb hk ha hb W)
  rw [hn] at hl ⊢
  obtain ⟨W1, hW1⟩ : ∃ W, w.alloc (.cells #[.slice A n c, .int .i64 last, .int .i64 mark] 66) = W := ⟨_, rfl⟩
  have TW : Hid (Turn (fun _ => False) w W1) := Lib.hid (hW1 ▸ (Turn.refl _ _).alloc _)
  have BX : Hid (Blk W1 w.heap.size 66 [.slice A n c, .int .i64 last, .int .i64 mark]) := Lib.hid (hW1 ▸ Blk.new _ _ _)
  have HBX : Hid (∀ X, Turn (fun _ => False) W1 X → X.cell? ⟨w.heap.size, 0, none⟩ = some (.slice A n c)) := Lib.hid (fun X hX => (BX.out.turn hX (fun h => h)).cell 0)
  obtain ⟨R, hR⟩ : ∃ R, snc14 M fa fb t = R := ⟨_, rfl⟩
  have HRR := Lib.hid hR
  rw [hR]
  clear hn hr hw hR hks ha hb BX
  go_enter Try.func79, Try.ntmps79
  go_wp2_with fail
  clear hW1
  go_loopw [9] (fun v9 wr => ∃ i : Nat, i ≤ n ∧ v9 = .int .i64 i ∧ Hid (∀ (j : Nat) (p : Itm × Value), j < i → M[j]? = some p → (win p.1.k fa fb && snc p.1.vs t) = false) ∧ Turn (fun _ => False) W1 wr) (fun v9 _ => n - (intOf v9).toNat)
  case atStart => exact ⟨0, Nat.zero_le _, rfl, Lib.hid (fun j p hj => absurd hj (by omega)), Turn.refl _ _⟩
  case round =>
    obtain ⟨i, hi, rfl, HOK, ht⟩ := hrel
    obtain ⟨wx, rfl⟩ : ∃ W, W = wr := ⟨_, rfl⟩
    have TX := Lib.hid ht
    have b0 := HBX.out wx ht
    clear ht
    by_cases hlt : i < n
    · have hl1 : (i : Int) < (n : Int) := by omega
      have hl0 : (0 : Int) ≤ (i : Int) := by omega
      have hq := wrap_of ((i : Int) + 1) (by omega) (by omega)
      obtain ⟨p, hp⟩ : ∃ p, M[i]? = some p := ⟨_, List.getElem?_eq_getElem (by rw [HN.out]; exact hlt)⟩
      have HP := Lib.hid hp
      obtain ⟨b, o, rfl, hb, hc⟩ := HR.out.item (by rw [HN.out]; omega)
      have HCW := Lib.hid (fun X (hX : Turn (fun _ => False) W1 X) => hc X (TW.out.trans hX) i p hp)
      have hv := (HW.out p (List.mem_of_getElem? hp))
      have HKP := Lib.hid (HWI.out p.1.k (HKS.out p (List.mem_of_getElem? hp)))
      have HSN := Lib.hid (fun X (hX : Turn (fun _ => False) W1 X) => refSince13 p.1.vs p.2 t X (hv.still (TW.out.trans hX)))
      have HNB : Hid ((win p.1.k fa fb && snc p.1.vs t) = true → R = true) := Lib.hid (fun h => by rw [← HRR.out]; exact any_at HP.out h)
      have HNX : Hid ((win p.1.k fa fb && snc p.1.vs t) = false → ∀ (j : Nat) (q : Itm × Value), j < i + 1 → M[j]? = some q → (win q.1.k fa fb && snc q.1.vs t) = false) := Lib.hid (fun h j q hj hqq => by
        rcases Nat.lt_or_ge j i with h1 | h1
        · exact HOK.out j q h1 hqq
        · have e : j = i := (by omega)
          subst e
          rw [HP.out] at hqq
          cases hqq
          exact h)
      obtain ⟨⟨pk, pvs⟩, pv⟩ := p
      obtain ⟨c0, c1⟩ := HCW.out wx TX.out
      simp only at c0 c1 hv HKP HSN HNB HNX HCW
      obtain ⟨AV, cV, e⟩ := hv.len
      subst e
      obtain ⟨m, hm⟩ : ∃ m, pvs.length = m := ⟨_, rfl⟩
      rw [hm] at c1 HCW HSN
      clear hp hb hc hv hm
      generalize win pk fa fb = r1 at *
      generalize snc pvs t = r2 at *
      go_wp2_with fail
      refine (HKP.out _).mono ?_
      rintro e w1 ⟨rfl, ht1⟩
      have T1 := Lib.hid (TX.out.trans ht1)
      obtain ⟨d0, d1⟩ := HCW.out w1 T1.out
      have b1 := HBX.out w1 T1.out
      clear ht1 c0 c1 b0
      cases r1 with
      | false =>
        have HN2 := Lib.hid (HNX.out rfl)
        go_wp2_with fail
        go_roundw
        case rel => exact ⟨i + 1, by omega, by simp [hq], HN2, T1.out⟩
        case measure => simp [intOf, hq]; omega
      | true =>
        go_wp2_with fail
        refine (HSN.out _ T1.out).mono ?_
        rintro e w2 ⟨rfl, ht2⟩
        have T2 := Lib.hid (T1.out.trans ht2)
        clear ht2
        cases r2 with
        | true =>
          have HT := Lib.hid (HNB.out rfl)
          go_wp2_with fail
          go_ret
          exact ⟨by rw [HT.out]; rfl, TW.out.trans T2.out⟩
        | false =>
          have HN2 := Lib.hid (HNX.out rfl)
          go_wp2_with fail
          go_roundw
          case rel => exact ⟨i + 1, by omega, by simp [hq], HN2, T2.out⟩
          case measure => simp [intOf, hq]; omega
    · obtain rfl : i = n := by omega
      have HF : Hid (R = false) := Lib.hid (by rw [← HRR.out]; exact any_none_ (fun j q hj hy => HOK.out j q (by rw [← HN.out]; exact hj) hy))
      go_wp2_with fail
      go_ret
      exact ⟨by rw [HF.out]; rfl, TW.out.trans TX.out⟩
end Go.Proofs.Ytjkfgbmlhglnfaa
/- Layer 14: items compared. (mkSpJ.py) -/
namespace Go.Proofs.Ytjkfgbmlhglnfaa
open Go.RowKit
set_option linter.unusedVariables false
set_option linter.unusedSimpArgs false
set_option maxRecDepth 100000

set_option maxHeartbeats 4000000 in
theorem refSame14 (M1 M2 : List (Itm × Value)) (he : M1.map (·.1) = M2.map (·.1)) (v1 v2 : Value) (w : World) (h1 : Ix w v1 M1) (h2 : Ix w v2 M2) :
    Calls Try.prog 15 #[v1, v2] w fun e w' => e = .returned (.bool true) ∧ Turn (fun _ => False) w w' := by
  obtain ⟨A1, c1, rfl, hl, hr1, hw1⟩ := h1
  obtain ⟨A2, c2, rfl, _, hr2, hw2⟩ := h2
  have hlen : M2.length = M1.length := by have := congrArg List.length he; simpa using this.symm
  obtain ⟨n, hn⟩ : ∃ n, M1.length = n := ⟨_, rfl⟩
  have HN := Lib.hid hn
  have HE := Lib.hid he
  have HR1 := Lib.hid hr1
  have HR2 := Lib.hid hr2
  have HW1 := Lib.hid hw1
  have HW2 := Lib.hid hw2
  have HL2 : Hid (M2.length = n) := Lib.hid (hlen.trans hn)
  rw [hlen, hn]
  rw [hn] at hl
  clear hn hr1 hr2 he hlen hw1 hw2
  go_enter Try.func15, Try.ntmps15
  go_wp2_with fail
  go_loopw [5] (fun v5 wr => ∃ i : Nat, i ≤ n ∧ v5 = .int .i64 i ∧ Turn (fun _ => False) w wr) (fun v5 _ => n - (intOf v5).toNat)
  case atStart => exact ⟨0, Nat.zero_le _, rfl, Turn.refl _ _⟩
  case round =>
    obtain ⟨i, hi, rfl, ht⟩ := hrel
    obtain ⟨wx, rfl⟩ : ∃ W, W = wr := ⟨_, rfl⟩
    have TT := Lib.hid ht
    clear ht
    by_cases hlt : i < n
    · have hlb1 : (i : Int) < (n : Int) := by omega
      have hlb0 : (0 : Int) ≤ (i : Int) := by omega
      have hq := wrap_of ((i : Int) + 1) (by omega) (by omega)
      obtain ⟨p, hp⟩ : ∃ x, M1[i]? = some x := ⟨_, List.getElem?_eq_getElem (by rw [HN.out]; exact hlt)⟩
      obtain ⟨q, hq2⟩ : ∃ x, M2[i]? = some x := ⟨_, List.getElem?_eq_getElem (by rw [HL2.out]; exact hlt)⟩
      have hpq : p.1 = q.1 := by
        have h8 : (M1.map (·.1))[i]? = some p.1 := by rw [List.getElem?_map, hp]; rfl
        rw [HE.out, List.getElem?_map, hq2] at h8
        simpa using h8.symm
      obtain ⟨b1, o1, rfl, hb1, hc1⟩ := HR1.out.item (by rw [HN.out]; omega)
      obtain ⟨b2, o2, rfl, hb2, hc2⟩ := HR2.out.item (by rw [HL2.out]; omega)
      have hv1 := HW1.out p (List.mem_of_getElem? hp)
      have hv2 := HW2.out q (List.mem_of_getElem? hq2)
      obtain ⟨⟨pk, pvs⟩, pv⟩ := p
      obtain ⟨⟨qk, qvs⟩, qv⟩ := q
      simp only [Itm.mk.injEq] at hpq
      obtain ⟨rfl, rfl⟩ := hpq
      simp only at hv1 hv2
      have HSM : Hid (∀ X, Turn (fun _ => False) wx X → Calls Try.prog 52 #[pv, qv] X fun e w' => ∃ v, e = .returned v ∧ (v = .bool true ∧ Turn (fun _ => False) X w')) := Lib.hid (fun X hX => (refSame13 pvs pv qv X (hv1.still (TT.out.trans hX)) (hv2.still (TT.out.trans hX))).mono fun e w' ⟨h1, h2⟩ => ⟨_, h1, rfl, h2⟩)
      have HCW : Hid (∀ X, Turn (fun _ => False) w X → X.cell? ⟨b1, o1 + i * 2, none⟩ = some (.string pk) ∧ X.cell? ⟨b1, o1 + i * 2 + 1, none⟩ = some pv ∧ X.cell? ⟨b2, o2 + i * 2, none⟩ = some (.string pk) ∧ X.cell? ⟨b2, o2 + i * 2 + 1, none⟩ = some qv) := Lib.hid (fun X hX => by
        obtain ⟨e1, e2⟩ := hc1 X hX i _ hp
        obtain ⟨e3, e4⟩ := hc2 X hX i _ hq2
        exact ⟨e1, e2, e3, e4⟩)
      have hss : (pk.toList == pk.toList) = true := by simp
      obtain ⟨Av1, cv1, e⟩ := hv1.len
      subst e
      obtain ⟨Av2, cv2, e⟩ := hv2.len
      subst e
      obtain ⟨mp, hmp⟩ : ∃ q, pvs.length = q := ⟨_, rfl⟩
      rw [hmp] at HSM HCW
      clear hp hq2 hb1 hb2 hc1 hc2 hv1 hv2 hmp
      go_wp2_with fail
      refine wp_region_noPanic ?_
      refine wp_region_held_drew (S := fun X => Turn (fun _ => False) wx X) (by kernel_rfl) ((Turn.refl (fun _ => False) wx).drew) (fun hHeld => ?_)
      have T0 : Hid (Turn (fun _ => False) wx wx.drew) := Lib.hid ((Turn.refl (fun _ => False) wx).drew)
      clear hHeld
      refine wpAnyH_take (i := 0) (v := ?_) rfl (by kernel_rfl) (by kernel_rfl) (by kernel_rfl) (fun _ _ _ h => h) (Or.inl ⟨by rfl, ?_⟩) (by assumption) ?_
      rotate_left 1
      · intro w' hSw
        go_simp
        all_goals first | with_reducible rfl | (rw [if_neg (by omega)]; done) | (rw [if_pos (by omega)]; done)
      try simp only [List.getElem_toArray, List.getElem_cons_zero, Act.put, List.setIfInBounds_toArray, List.set_cons_zero, List.set_cons_succ]
      refine wpAnyH_take (i := 1) (v := ?_) rfl (by kernel_rfl) (by kernel_rfl) (by kernel_rfl) (fun _ _ _ h => h) (Or.inl ⟨by rfl, ?_⟩) (by assumption) ?_
      rotate_left 1
      · intro w' hSw
        go_simp
        all_goals first | with_reducible rfl | (rw [if_neg (by omega)]; done) | (rw [if_pos (by omega)]; done)
      try simp only [List.getElem_toArray, List.getElem_cons_zero, List.getElem_cons_succ, Act.put, List.setIfInBounds_toArray, List.set_cons_zero, List.set_cons_succ]
      refine wpAnyH_take (i := 2) (v := ?_) rfl (by kernel_rfl) (by kernel_rfl) (by kernel_rfl) (fun _ _ _ h => h) (Or.inl ⟨by rfl, ?_⟩) (by assumption) ?_
      rotate_left 1
      · intro w' hSw
        go_simp
        all_goals first | with_reducible rfl | (rw [if_neg (by omega)]; done) | (rw [if_pos (by omega)]; done)
      try simp only [List.getElem_toArray, List.getElem_cons_zero, List.getElem_cons_succ, Act.put, List.setIfInBounds_toArray, List.set_cons_zero, List.set_cons_succ]
      refine wpAnyH_take (i := 3) (v := ?_) rfl (by kernel_rfl) (by kernel_rfl) (by kernel_rfl) (fun _ _ _ h => h) (Or.inl ⟨by rfl, ?_⟩) (by assumption) ?_
      rotate_left 1
      · intro w' hSw
        go_simp
        all_goals first | with_reducible rfl | (rw [if_neg (by omega)]; done) | (rw [if_pos (by omega)]; done)
      try simp only [List.getElem_toArray, List.getElem_cons_zero, List.getElem_cons_succ, Act.put, List.setIfInBounds_toArray, List.set_cons_zero, List.set_cons_succ]
      refine wpAnyH_take (i := 4) (v := ?_) rfl (by kernel_rfl) (by kernel_rfl) (by kernel_rfl) (fun _ _ _ h => h) (Or.inl ⟨by rfl, ?_⟩) (by assumption) ?_
      rotate_left 1
      · intro w' hSw
        have hS1 := hSw
        obtain ⟨y0, y1, y2, y3⟩ := HCW.out _ (TT.out.trans hS1)
        go_simp
        all_goals first | with_reducible rfl | (rw [if_neg (by omega)]; done) | (rw [if_pos (by omega)]; done)
      try simp only [List.getElem_toArray, List.getElem_cons_zero, List.getElem_cons_succ, Act.put, List.setIfInBounds_toArray, List.set_cons_zero, List.set_cons_succ]
      refine wpAnyH_take (i := 5) (v := ?_) rfl (by kernel_rfl) (by kernel_rfl) (by kernel_rfl) (fun _ _ _ h => h) (Or.inl ⟨by rfl, ?_⟩) (by assumption) ?_
      rotate_left 1
      · intro w' hSw
        go_simp
        all_goals first | with_reducible rfl | (rw [if_neg (by omega)]; done) | (rw [if_pos (by omega)]; done)
      try simp only [List.getElem_toArray, List.getElem_cons_zero, List.getElem_cons_succ, Act.put, List.setIfInBounds_toArray, List.set_cons_zero, List.set_cons_succ]
      refine wpAnyH_take (i := 6) (v := ?_) rfl (by kernel_rfl) (by kernel_rfl) (by kernel_rfl) (fun _ _ _ h => h) (Or.inl ⟨by rfl, ?_⟩) (by assumption) ?_
      rotate_left 1
      · intro w' hSw
        go_simp
        all_goals first | with_reducible rfl | (rw [if_neg (by omega)]; done) | (rw [if_pos (by omega)]; done)
      try simp only [List.getElem_toArray, List.getElem_cons_zero, List.getElem_cons_succ, Act.put, List.setIfInBounds_toArray, List.set_cons_zero, List.set_cons_succ]
      refine wpAnyH_take (i := 7) (v := ?_) rfl (by kernel_rfl) (by kernel_rfl) (by kernel_rfl) (fun _ _ _ h => h) (Or.inl ⟨by rfl, ?_⟩) (by assumption) ?_
      rotate_left 1
      · intro w' hSw
        go_simp
        all_goals first | with_reducible rfl | (rw [if_neg (by omega)]; done) | (rw [if_pos (by omega)]; done)
      try simp only [List.getElem_toArray, List.getElem_cons_zero, List.getElem_cons_succ, Act.put, List.setIfInBounds_toArray, List.set_cons_zero, List.set_cons_succ]
      refine wpAnyH_take (i := 8) (v := ?_) rfl (by kernel_rfl) (by kernel_rfl) (by kernel_rfl) (fun _ _ _ h => h) (Or.inl ⟨by rfl, ?_⟩) (by assumption) ?_
      rotate_left 1
      · intro w' hSw
        go_simp
        all_goals first | with_reducible rfl | (rw [if_neg (by omega)]; done) | (rw [if_pos (by omega)]; done)
      try simp only [List.getElem_toArray, List.getElem_cons_zero, List.getElem_cons_succ, Act.put, List.setIfInBounds_toArray, List.set_cons_zero, List.set_cons_succ]
      refine wpAnyH_take (i := 9) (v := ?_) rfl (by kernel_rfl) (by kernel_rfl) (by kernel_rfl) (fun _ _ _ h => h) (Or.inl ⟨by rfl, ?_⟩) (by assumption) ?_
      rotate_left 1
      · intro w' hSw
        have hS1 := hSw
        obtain ⟨y0, y1, y2, y3⟩ := HCW.out _ (TT.out.trans hS1)
        go_simp
        all_goals first | with_reducible rfl | (rw [if_neg (by omega)]; done) | (rw [if_pos (by omega)]; done)
      try simp only [List.getElem_toArray, List.getElem_cons_zero, List.getElem_cons_succ, Act.put, List.setIfInBounds_toArray, List.set_cons_zero, List.set_cons_succ]
      refine wpAnyH_take (i := 10) (v := ?_) rfl (by kernel_rfl) (by kernel_rfl) (by kernel_rfl) (fun _ _ _ h => h) (Or.inl ⟨by rfl, ?_⟩) (by assumption) ?_
      rotate_left 1
      · intro w' hSw
        go_simp
        all_goals first | with_reducible rfl | (rw [if_neg (by omega)]; done) | (rw [if_pos (by omega)]; done)
      try simp only [List.getElem_toArray, List.getElem_cons_zero, List.getElem_cons_succ, Act.put, List.setIfInBounds_toArray, List.set_cons_zero, List.set_cons_succ]
      refine wpAnyH_take (i := 11) (v := ?_) rfl (by kernel_rfl) (by kernel_rfl) (by kernel_rfl) (fun _ _ _ h => h) (Or.inl ⟨by rfl, ?_⟩) (by assumption) ?_
      rotate_left 1
      · intro w' hSw
        go_simp
        all_goals first | with_reducible rfl | (rw [if_neg (by omega)]; done) | (rw [if_pos (by omega)]; done)
      try simp only [List.getElem_toArray, List.getElem_cons_zero, List.getElem_cons_succ, Act.put, List.setIfInBounds_toArray, List.set_cons_zero, List.set_cons_succ]
      refine wpAnyH_take (i := 12) (v := ?_) rfl (by kernel_rfl) (by kernel_rfl) (by kernel_rfl) (fun _ _ _ h => h) (Or.inl ⟨by rfl, ?_⟩) (by assumption) ?_
      rotate_left 1
      · intro w' hSw
        go_simp
        all_goals first | with_reducible rfl | (rw [if_neg (by omega)]; done) | (rw [if_pos (by omega)]; done)
      try simp only [List.getElem_toArray, List.getElem_cons_zero, List.getElem_cons_succ, Act.put, List.setIfInBounds_toArray, List.set_cons_zero, List.set_cons_succ]
      refine wpAnyH_take (i := 13) (v := ?_) rfl (by kernel_rfl) (by kernel_rfl) (by kernel_rfl) (fun _ _ _ h => h) (Or.inl ⟨by rfl, ?_⟩) (by assumption) ?_
      rotate_left 1
      · intro w' hSw
        go_simp
        all_goals first | with_reducible rfl | (rw [if_neg (by omega)]; done) | (rw [if_pos (by omega)]; done)
      try simp only [List.getElem_toArray, List.getElem_cons_zero, List.getElem_cons_succ, Act.put, List.setIfInBounds_toArray, List.set_cons_zero, List.set_cons_succ]
      refine wpAnyH_take (i := 14) (v := ?_) rfl (by kernel_rfl) (by kernel_rfl) (by kernel_rfl) (fun _ _ _ h => h) (Or.inl ⟨by rfl, ?_⟩) (by assumption) ?_
      rotate_left 1
      · intro w' hSw
        go_simp
        all_goals first | with_reducible rfl | (rw [if_neg (by omega)]; done) | (rw [if_pos (by omega)]; done)
      try simp only [List.getElem_toArray, List.getElem_cons_zero, List.getElem_cons_succ, Act.put, List.setIfInBounds_toArray, List.set_cons_zero, List.set_cons_succ]
      refine wpAnyH_take (i := 15) (v := ?_) rfl (by kernel_rfl) (by kernel_rfl) (by kernel_rfl) (fun _ _ _ h => h) (Or.inl ⟨by rfl, ?_⟩) (by assumption) ?_
      rotate_left 1
      · intro w' hSw
        go_simp
        all_goals first | with_reducible rfl | (rw [if_neg (by omega)]; done) | (rw [if_pos (by omega)]; done)
      try simp only [List.getElem_toArray, List.getElem_cons_zero, List.getElem_cons_succ, Act.put, List.setIfInBounds_toArray, List.set_cons_zero, List.set_cons_succ]
      refine wpAnyH_take (i := 16) (v := ?_) rfl (by kernel_rfl) (by kernel_rfl) (by kernel_rfl) (fun _ _ _ h => h) (Or.inl ⟨by rfl, ?_⟩) (by assumption) ?_
      rotate_left 1
      · intro w' hSw
        have hS1 := hSw
        obtain ⟨y0, y1, y2, y3⟩ := HCW.out _ (TT.out.trans hS1)
        go_simp
        all_goals first | with_reducible rfl | (rw [if_neg (by omega)]; done) | (rw [if_pos (by omega)]; done)
      try simp only [List.getElem_toArray, List.getElem_cons_zero, List.getElem_cons_succ, Act.put, List.setIfInBounds_toArray, List.set_cons_zero, List.set_cons_succ]
      refine wpAnyH_take (i := 17) (v := ?_) rfl (by kernel_rfl) (by kernel_rfl) (by kernel_rfl) (fun _ _ _ h => h) (Or.inl ⟨by rfl, ?_⟩) (by assumption) ?_
      rotate_left 1
      · intro w' hSw
        go_simp
        all_goals first | with_reducible rfl | (rw [if_neg (by omega)]; done) | (rw [if_pos (by omega)]; done)
      try simp only [List.getElem_toArray, List.getElem_cons_zero, List.getElem_cons_succ, Act.put, List.setIfInBounds_toArray, List.set_cons_zero, List.set_cons_succ]
      refine wpAnyH_take (i := 18) (v := ?_) rfl (by kernel_rfl) (by kernel_rfl) (by kernel_rfl) (fun _ _ _ h => h) (Or.inl ⟨by rfl, ?_⟩) (by assumption) ?_
      rotate_left 1
      · intro w' hSw
        go_simp
        all_goals first | with_reducible rfl | (rw [if_neg (by omega)]; done) | (rw [if_pos (by omega)]; done)
      try simp only [List.getElem_toArray, List.getElem_cons_zero, List.getElem_cons_succ, Act.put, List.setIfInBounds_toArray, List.set_cons_zero, List.set_cons_succ]
      refine wpAnyH_take (i := 19) (v := ?_) rfl (by kernel_rfl) (by kernel_rfl) (by kernel_rfl) (fun _ _ _ h => h) (Or.inl ⟨by rfl, ?_⟩) (by assumption) ?_
      rotate_left 1
      · intro w' hSw
        go_simp
        all_goals first | with_reducible rfl | (rw [if_neg (by omega)]; done) | (rw [if_pos (by omega)]; done)
      try simp only [List.getElem_toArray, List.getElem_cons_zero, List.getElem_cons_succ, Act.put, List.setIfInBounds_toArray, List.set_cons_zero, List.set_cons_succ]
      refine wpAnyH_take (i := 20) (v := ?_) rfl (by kernel_rfl) (by kernel_rfl) (by kernel_rfl) (fun _ _ _ h => h) (Or.inl ⟨by rfl, ?_⟩) (by assumption) ?_
      rotate_left 1
      · intro w' hSw
        go_simp
        all_goals first | with_reducible rfl | (rw [if_neg (by omega)]; done) | (rw [if_pos (by omega)]; done)
      try simp only [List.getElem_toArray, List.getElem_cons_zero, List.getElem_cons_succ, Act.put, List.setIfInBounds_toArray, List.set_cons_zero, List.set_cons_succ]
      refine wpAnyH_take (i := 21) (v := ?_) rfl (by kernel_rfl) (by kernel_rfl) (by kernel_rfl) (fun _ _ _ h => h) (Or.inl ⟨by rfl, ?_⟩) (by assumption) ?_
      rotate_left 1
      · intro w' hSw
        have hS1 := hSw
        obtain ⟨y0, y1, y2, y3⟩ := HCW.out _ (TT.out.trans hS1)
        go_simp
        all_goals first | with_reducible rfl | (rw [if_neg (by omega)]; done) | (rw [if_pos (by omega)]; done)
      try simp only [List.getElem_toArray, List.getElem_cons_zero, List.getElem_cons_succ, Act.put, List.setIfInBounds_toArray, List.set_cons_zero, List.set_cons_succ]
      refine wpAnyH_ready (rs := [22]) (by kernel_rfl) (by simp) ?_
      refine AllReadyH.cons rfl (fun K hK => ?_) AllReadyH.nil
      refine step_call_on 52 Try.f52 _ _ rfl Try.func52 (by kernel_rfl) (by kernel_rfl) _ _ (HSM.out _ T0.out) (by go_simp) (by first | rfl | go_simp) ?_
      rintro v9 w9 ⟨rfl, ht⟩
      have T1 := Lib.hid (T0.out.trans ht)
      clear ht
      refine hK.out _ _ T1.out (fun hHeld => ?_)
      clear hHeld
      clear hK K
      try simp only [List.getElem_toArray, List.getElem_cons_zero, List.getElem_cons_succ, Act.put, List.setIfInBounds_toArray, List.set_cons_zero, List.set_cons_succ]
      refine wpAnyH_take (i := 23) (v := ?_) rfl (by kernel_rfl) (by kernel_rfl) (by kernel_rfl) (fun _ _ _ h => h) (Or.inl ⟨by rfl, ?_⟩) (by assumption) ?_
      rotate_left 1
      · intro w' hSw
        go_simp
        all_goals first | with_reducible rfl | (rw [if_neg (by omega)]; done) | (rw [if_pos (by omega)]; done)
      try simp only [List.getElem_toArray, List.getElem_cons_zero, List.getElem_cons_succ, Act.put, List.setIfInBounds_toArray, List.set_cons_zero, List.set_cons_succ]
      refine wpAnyH_take (i := 24) (v := ?_) rfl (by kernel_rfl) (by kernel_rfl) (by kernel_rfl) (fun _ _ _ h => h) (Or.inl ⟨by rfl, ?_⟩) (by assumption) ?_
      rotate_left 1
      · intro w' hSw
        go_simp
        all_goals first | with_reducible rfl | (rw [if_neg (by omega)]; done) | (rw [if_pos (by omega)]; done)
      try simp only [List.getElem_toArray, List.getElem_cons_zero, List.getElem_cons_succ, Act.put, List.setIfInBounds_toArray, List.set_cons_zero, List.set_cons_succ]
      refine wpAnyH_done (by kernel_rfl) ?_ _
      refine NoPanic.normal ?_
      go_wp2_with fail
      go_roundw
      case rel => exact ⟨i + 1, by omega, by simp [hq], TT.out.trans T1.out⟩
      case measure => simp [intOf, hq]; omega
    · obtain rfl : i = n := by omega
      go_wp2_with fail
      go_ret
      exact ⟨rfl, TT.out⟩
end Go.Proofs.Ytjkfgbmlhglnfaa
