/- The document's pairs in order (ambryref10): Get, Put, Drop. -/
import Derived.Test.YtobddfpdijmgiaaSpI
import Derived.Test.YtobddfpdijmgiaaSpAd
namespace Go.Proofs.Ytobddfpdijmgiaa
open Go.RowKit
set_option linter.unusedVariables false
set_option linter.unusedSimpArgs false
set_option maxRecDepth 100000

def pst (z : Pq2) (st : List Pq2 × Bool) (x : Pq2) : List Pq2 × Bool :=
  if (x.k.toList == z.k.toList) then (if !st.2 && !lt14 x.k z.k then (st.1 ++ [z], true) else st)
  else ((if !st.2 && !lt14 x.k z.k then st.1 ++ [z] else st.1) ++ [x], if !st.2 && !lt14 x.k z.k then true else st.2)
/-- Pairs with one more put. -/
def putP (L : List Pq2) (z : Pq2) : List Pq2 := if (L.foldl (pst z) ([], false)).2 then (L.foldl (pst z) ([], false)).1 else (L.foldl (pst z) ([], false)).1 ++ [z]
def getP (L : List Pq2) (k : ByteArray) : ByteArray × Int := match L.find? (fun p => p.k.toList == k.toList) with
  | some p => (p.v, 0)
  | none => (ByteArray.empty, 7)
theorem getP_at {L : List Pq2} {k : ByteArray} {i : Nat} {p : Pq2} (h : L[i]? = some p) (hk : (p.k.toList == k.toList) = true) (hn : ∀ (j : Nat) (x : Pq2), j < i → L[j]? = some x → (x.k.toList == k.toList) = false) : getP L k = (p.v, 0) := by
  have e : L.find? (fun p => p.k.toList == k.toList) = some p := by
    rw [List.find?_eq_some_iff_getElem]
    obtain ⟨hi, he⟩ := List.getElem?_eq_some_iff.1 h
    refine ⟨hk, i, hi, he, fun j hj => ?_⟩
    have := hn j _ hj (List.getElem?_eq_getElem (by omega))
    simp [this]
  unfold getP
  rw [e]
theorem getP_no {L : List Pq2} {k : ByteArray} (hn : ∀ (j : Nat) (x : Pq2), L[j]? = some x → (x.k.toList == k.toList) = false) : getP L k = (ByteArray.empty, 7) := by
  have e : L.find? (fun p => p.k.toList == k.toList) = none := by
    rw [List.find?_eq_none]
    intro x hx
    obtain ⟨j, hj⟩ := List.getElem?_of_mem hx
    simp [hn j x hj]
  unfold getP
  rw [e]
def drpP (L : List Pq2) (k : ByteArray) : List Pq2 := L.filter (fun p => !(p.k.toList == k.toList))
set_option maxHeartbeats 8000000 in
theorem refPut10 (M : List Pq2) (v : Value) (key val : ByteArray) (w : World) (h : Px w v M) (hk : key.size ≤ 128) (hv : val.size ≤ 200) (hks : ∀ p ∈ M, p.k.size ≤ 140737488351232) (hb : M.length ≤ 100000) :
    Calls Try.prog 70 #[v, .string key, .string val] w fun e w' => ∃ v', e = .returned (.tuple #[v', .int .i64 0]) ∧ Po w.heap.size w' v' (putP M ⟨key, val⟩) ∧ Turn (fun _ => False) w w' := by
  obtain ⟨A, c, rfl, hl, hr⟩ := h
  obtain ⟨n, hn⟩ : ∃ n, M.length = n := ⟨_, rfl⟩
  have HN := Lib.hid hn
  have HR := Lib.hid hr
  have HBE := Lib.hid (fun (k : ByteArray) (h : k.size ≤ 140737488351232) W => below_t k key h (by omega) W)
  have HKS := Lib.hid hks
  rw [hn] at hl hb ⊢
  unfold putP
  clear hn hr hks
  obtain ⟨R, hR⟩ : ∃ R, M.foldl (pst ⟨key, val⟩) ([], false) = R := ⟨_, rfl⟩
  have HRR := Lib.hid hR
  rw [hR]
  clear hR
  obtain ⟨RZ, hRZ⟩ : ∃ q, (if R.2 = true then R.1 else R.1 ++ [(⟨key, val⟩ : Pq2)]) = q := ⟨_, rfl⟩
  have HRZ := Lib.hid hRZ
  rw [hRZ]
  clear hRZ
  have hg1 : ¬ ((128 : Int) < (key.size : Int)) := by omega
  have hg2 : ¬ ((200 : Int) < (val.size : Int)) := by omega
  go_enter Try.func70, Try.ntmps70
  go_wp2_with fail
  go_loopw [8, 9, 10] (fun v8 v9 v10 wr => ∃ (i : Nat) (F : List Pq2) (lb : Bool), i ≤ n ∧ v10 = .int .i64 i ∧ v9 = .bool lb ∧ Hid ((M.take i).foldl (pst ⟨key, val⟩) ([], false) = (F, lb)) ∧ Hid (F.length ≤ 2 * i) ∧ Po w.heap.size wr v8 F ∧ Turn (fun _ => False) w wr) (fun _ _ v10 _ => n - (intOf v10).toNat)
  case atStart => exact ⟨0, [], false, Nat.zero_le _, rfl, rfl, Lib.hid rfl, Lib.hid (Nat.le_refl _), po_nil _ _, Turn.refl _ _⟩
  case round =>
    obtain ⟨i, F, lb, hi, rfl, rfl, HST, HFB, ho, ht⟩ := hrel
    obtain ⟨wx, rfl⟩ : ∃ W, W = wr := ⟨_, rfl⟩
    obtain ⟨AF, cF, rfl⟩ := own_slice_ ho
    obtain ⟨f, hf⟩ : ∃ f, F.length = f := ⟨_, rfl⟩
    have HFL := Lib.hid hf
    have TT := Lib.hid ht
    rw [hf] at ho HFB ⊢
    have HO := Lib.hid ho
    have hfb := HFB.out
    clear ho ht hf
    by_cases hlt : i < n
    · have hl1 : (i : Int) < (n : Int) := by omega
      have hl0 : (0 : Int) ≤ (i : Int) := by omega
      have hq := wrap_of ((i : Int) + 1) (by omega) (by omega)
      obtain ⟨p, hp⟩ : ∃ p, M[i]? = some p := ⟨_, List.getElem?_eq_getElem (by rw [HN.out]; exact hlt)⟩
      have HP := Lib.hid hp
      obtain ⟨b, o, rfl, hb1, hc⟩ := HR.out.pair (by rw [HN.out]; omega)
      have HCW := Lib.hid (fun X (hX : Turn (fun _ => False) w X) => hc X hX i p hp)
      have HB1 := Lib.hid (HBE.out p.k (HKS.out p (List.mem_of_getElem? hp)))
      obtain ⟨pk, pv⟩ := p
      simp only at HB1 HCW
      obtain ⟨c0, c1⟩ := HCW.out wx TT.out
      clear hp hb1 hc
      cases lb with
      | true =>
        cases hke : (pk.toList == key.toList) with
        | true =>
          have hkn : (pk.toList != key.toList) = false := by simp only [bne, hke]; rfl
          have HNX : Hid ((M.take (i + 1)).foldl (pst ⟨key, val⟩) ([], false) = (F, true)) := Lib.hid (by rw [take_next HP.out, List.foldl_append, HST.out]; simp [pst, show ((!true) = false) from rfl, hke])
          go_wp2_with fail
          go_roundw
          case rel => exact ⟨i + 1, _, true, by omega, by simp [hq], rfl, HNX, Lib.hid (by have := HFL.out; omega), HO.out, TT.out⟩
          case measure => simp [intOf, hq]; omega
        | false =>
          have hkn : (pk.toList != key.toList) = true := by simp only [bne, hke]; rfl
          have HNX : Hid ((M.take (i + 1)).foldl (pst ⟨key, val⟩) ([], false) = (F ++ [⟨pk, pv⟩], true)) := Lib.hid (by rw [take_next HP.out, List.foldl_append, HST.out]; simp [pst, show ((!true) = false) from rfl, hke])
          go_wp2_with (at_builtin; refine wpList_app1p rfl _ _ rfl w.heap.size (.slice AF f cF) F f wx.heap.size ⟨pk, pv⟩ rfl HFL.out (HO.out.still ((Turn.refl _ _).alloc _)) rfl (Blk.new wx 61 [.string pk, .string pv]) (by omega) (by have := TT.out.size; rw [World.size_alloc]; omega) ?_; intro A8 c8 w8 ho7 ht7; have O8 := Lib.hid ho7; have T8 := Lib.hid ((TT.out.alloc (.cells #[.string pk, .string pv] 61)).trans_new ht7 (fun k hk h => by have := (own_ge9 HO.out k h).1; omega)); clear ho7 ht7)
          go_roundw
          case rel => exact ⟨i + 1, _, true, by omega, by simp [hq], rfl, HNX, Lib.hid (by rw [List.length_append]; simp only [List.length_singleton]; have := HFL.out; omega), O8.out, T8.out⟩
          case measure => simp [intOf, hq]; omega
      | false =>
        go_wp2_with fail
        refine (HB1.out _).mono ?_
        rintro e w1 ⟨rfl, ht1⟩
        have T1 := Lib.hid (TT.out.trans ht1)
        have O1 := Lib.hid (HO.out.still ht1)
        obtain ⟨d0, d1⟩ := HCW.out w1 T1.out
        have HLT : Hid (lt14 pk key = Op.bytesLess pk.data.toList key.data.toList) := Lib.hid rfl
        rw [← HLT.out]
        clear ht1 c0 c1 HLT
        cases hlk : lt14 pk key with
        | true =>
          cases hke : (pk.toList == key.toList) with
          | true =>
            have hkn : (pk.toList != key.toList) = false := by simp only [bne, hke]; rfl
            have HNX : Hid ((M.take (i + 1)).foldl (pst ⟨key, val⟩) ([], false) = (F, false)) := Lib.hid (by rw [take_next HP.out, List.foldl_append, HST.out]; simp [pst, hlk, hke])
            go_wp2_with fail
            go_roundw
            case rel => exact ⟨i + 1, _, false, by omega, by simp [hq], rfl, HNX, Lib.hid (by have := HFL.out; omega), O1.out, T1.out⟩
            case measure => simp [intOf, hq]; omega
          | false =>
            have hkn : (pk.toList != key.toList) = true := by simp only [bne, hke]; rfl
            have HNX : Hid ((M.take (i + 1)).foldl (pst ⟨key, val⟩) ([], false) = (F ++ [⟨pk, pv⟩], false)) := Lib.hid (by rw [take_next HP.out, List.foldl_append, HST.out]; simp [pst, hlk, hke])
            go_wp2_with (at_builtin; refine wpList_app1p rfl _ _ rfl w.heap.size (.slice AF f cF) F f w1.heap.size ⟨pk, pv⟩ rfl HFL.out (O1.out.still ((Turn.refl _ _).alloc _)) rfl (Blk.new w1 61 [.string pk, .string pv]) (by omega) (by have := T1.out.size; rw [World.size_alloc]; omega) ?_; intro A8 c8 w8 ho7 ht7; have O8 := Lib.hid ho7; have T8 := Lib.hid ((T1.out.alloc (.cells #[.string pk, .string pv] 61)).trans_new ht7 (fun k hk h => by have := (own_ge9 O1.out k h).1; omega)); clear ho7 ht7)
            go_roundw
            case rel => exact ⟨i + 1, _, false, by omega, by simp [hq], rfl, HNX, Lib.hid (by rw [List.length_append]; simp only [List.length_singleton]; have := HFL.out; omega), O8.out, T8.out⟩
            case measure => simp [intOf, hq]; omega
        | false =>
          go_upto_region 11 with (first | (at_builtin; refine wpList_app1p rfl _ _ rfl w.heap.size (.slice AF f cF) F f w1.heap.size ⟨key, val⟩ rfl HFL.out (O1.out.still ((Turn.refl _ _).alloc _)) rfl (Blk.new w1 61 [.string key, .string val]) (by omega) (by have := T1.out.size; rw [World.size_alloc]; omega) ?_; intro A7 c7 w7 ho7 ht7; have O7 := Lib.hid ho7; have T7 := Lib.hid ((T1.out.alloc (.cells #[.string key, .string val] 61)).trans_new ht7 (fun k hk h => by have := (own_ge9 O1.out k h).1; omega)); clear ho7 ht7; obtain ⟨d0, d1⟩ := HCW.out w7 T7.out) | fail)
          have HFL7 : Hid ((F ++ [(⟨key, val⟩ : Pq2)]).length = f + 1) := Lib.hid (by rw [List.length_append, HFL.out]; rfl)
          have hfb7 : f + 1 ≤ 300000 := by omega
          obtain ⟨f7, hf7⟩ : ∃ q, f + 1 = q := ⟨_, rfl⟩
          have HF7 := Lib.hid hf7
          rw [hf7] at HFL7 O7 hfb7 ⊢
          clear hf7
          obtain ⟨F7, hF7⟩ : ∃ q, F ++ [(⟨key, val⟩ : Pq2)] = q := ⟨_, rfl⟩
          have HFE7 := Lib.hid hF7
          rw [hF7] at HFL7 O7
          clear hF7
          cases hke : (pk.toList == key.toList) with
          | true =>
            have hkn : (pk.toList != key.toList) = false := by simp only [bne, hke]; rfl
            have HNX : Hid ((M.take (i + 1)).foldl (pst ⟨key, val⟩) ([], false) = (F7, true)) := Lib.hid (by rw [take_next HP.out, List.foldl_append, HST.out]; simp [pst, hlk, HFE7.out, hke])
            go_wp2_with fail
            go_roundw
            case rel => exact ⟨i + 1, _, true, by omega, by simp [hq], rfl, HNX, Lib.hid (by have := HFL7.out; have := HF7.out; omega), O7.out, T7.out⟩
            case measure => simp [intOf, hq]; omega
          | false =>
            have hkn : (pk.toList != key.toList) = true := by simp only [bne, hke]; rfl
            have HNX : Hid ((M.take (i + 1)).foldl (pst ⟨key, val⟩) ([], false) = (F7 ++ [⟨pk, pv⟩], true)) := Lib.hid (by rw [take_next HP.out, List.foldl_append, HST.out]; simp [pst, hlk, HFE7.out, hke])
            go_wp2_with (at_builtin; refine wpList_app1p rfl _ _ rfl w.heap.size (.slice A7 f7 c7) F7 f7 w7.heap.size ⟨pk, pv⟩ rfl HFL7.out (O7.out.still ((Turn.refl _ _).alloc _)) rfl (Blk.new w7 61 [.string pk, .string pv]) (by omega) (by have := T7.out.size; rw [World.size_alloc]; omega) ?_; intro A8 c8 w8 ho7 ht7; have O8 := Lib.hid ho7; have T8 := Lib.hid ((T7.out.alloc (.cells #[.string pk, .string pv] 61)).trans_new ht7 (fun k hk h => by have := (own_ge9 O7.out k h).1; omega)); clear ho7 ht7)
            go_roundw
            case rel => exact ⟨i + 1, _, true, by omega, by simp [hq], rfl, HNX, Lib.hid (by rw [List.length_append]; simp only [List.length_singleton]; have := HFL7.out; have := HF7.out; omega), O8.out, T8.out⟩
            case measure => simp [intOf, hq]; omega
    · obtain rfl : i = n := by omega
      have HRE : Hid (R = (F, lb)) := Lib.hid (by rw [← HRR.out, ← HST.out, ← HN.out, List.take_length])
      cases lb with
      | true =>
        have HRF : Hid (RZ = F) := Lib.hid (by rw [← HRZ.out, HRE.out]; rfl)
        go_wp2_with fail
        go_ret2
        exact ⟨_, rfl, by rw [HRF.out]; exact HO.out, TT.out⟩
      | false =>
        have HRF : Hid (RZ = F ++ [(⟨key, val⟩ : Pq2)]) := Lib.hid (by rw [← HRZ.out, HRE.out]; rfl)
        go_wp2_with (at_builtin; refine wpList_app1p rfl _ _ rfl w.heap.size (.slice AF f cF) F f wx.heap.size ⟨key, val⟩ rfl HFL.out (HO.out.still ((Turn.refl _ _).alloc _)) rfl (Blk.new wx 61 [.string key, .string val]) (by omega) (by have := TT.out.size; rw [World.size_alloc]; omega) ?_; intro A7 c7 w7 ho7 ht7; have O7 := Lib.hid ho7; have T7 := Lib.hid ((TT.out.alloc (.cells #[.string key, .string val] 61)).trans_new ht7 (fun k hk h => by have := (own_ge9 HO.out k h).1; omega)); clear ho7 ht7)
        go_ret2
        exact ⟨_, rfl, by rw [HRF.out]; exact O7.out, T7.out⟩
set_option maxHeartbeats 4000000 in
theorem refPut10b (v : Value) (key val : ByteArray) (w : World) (hv : v.oneCell' = true) (hk : 128 < key.size ∨ 200 < val.size) (hs : key.size ≤ 140737488351232 ∧ val.size ≤ 140737488351232) :
    Calls Try.prog 70 #[v, .string key, .string val] w fun e w' => e = .returned (.tuple #[v, .int .i64 2]) ∧ Turn (fun _ => False) w w' := by
  by_cases h1 : 128 < key.size
  · have hg1 : (128 : Int) < (key.size : Int) := by omega
    clear hk
    go_enter Try.func70, Try.ntmps70
    go_wp2_with fail
    go_ret2
    exact ⟨rfl, Turn.refl _ _⟩
  · have hg1 : ¬ ((128 : Int) < (key.size : Int)) := by omega
    have hg2 : (200 : Int) < (val.size : Int) := by omega
    clear hk
    go_enter Try.func70, Try.ntmps70
    go_wp2_with fail
    go_ret2
    exact ⟨rfl, Turn.refl _ _⟩
set_option maxHeartbeats 4000000 in
theorem refGet10 (M : List Pq2) (v : Value) (key : ByteArray) (w : World) (h : Px w v M) :
    Calls Try.prog 50 #[v, .string key] w fun e w' => e = .returned (.tuple #[.string (getP M key).1, .int .i64 (getP M key).2]) ∧ Turn (fun _ => False) w w' := by
  obtain ⟨A, c, rfl, hl, hr⟩ := h
  obtain ⟨n, hn⟩ : ∃ n, M.length = n := ⟨_, rfl⟩
  have HN := Lib.hid hn
  have HR := Lib.hid hr
  rw [hn] at hl ⊢
  clear hn hr
  obtain ⟨R, hR⟩ : ∃ R, getP M key = R := ⟨_, rfl⟩
  have HRR := Lib.hid hR
  rw [hR]
  clear hR
  go_enter Try.func50, Try.ntmps50
  go_wp2_with fail
  go_loopw [6] (fun v6 wr => ∃ i : Nat, i ≤ n ∧ v6 = .int .i64 i ∧ Hid (∀ (j : Nat) (x : Pq2), j < i → M[j]? = some x → (x.k.toList == key.toList) = false) ∧ Turn (fun _ => False) w wr) (fun v6 _ => n - (intOf v6).toNat)
  case atStart => exact ⟨0, Nat.zero_le _, rfl, Lib.hid (fun j x hj => by omega), Turn.refl _ _⟩
  case round =>
    obtain ⟨i, hi, rfl, HNO, ht⟩ := hrel
    obtain ⟨wx, rfl⟩ : ∃ W, W = wr := ⟨_, rfl⟩
    have TT := Lib.hid ht
    clear ht
    by_cases hlt : i < n
    · have hl1 : (i : Int) < (n : Int) := by omega
      have hl0 : (0 : Int) ≤ (i : Int) := by omega
      have hq := wrap_of ((i : Int) + 1) (by omega) (by omega)
      obtain ⟨p, hp⟩ : ∃ p, M[i]? = some p := ⟨_, List.getElem?_eq_getElem (by rw [HN.out]; exact hlt)⟩
      have HP := Lib.hid hp
      obtain ⟨b, o, rfl, hb1, hc⟩ := HR.out.pair (by rw [HN.out]; omega)
      obtain ⟨c0, c1⟩ := hc wx TT.out i p hp
      clear hp hb1 hc
      cases hke : (p.k.toList == key.toList) with
      | true =>
        have HE : Hid (R = (p.v, 0)) := Lib.hid (by rw [← HRR.out]; exact getP_at HP.out hke HNO.out)
        obtain ⟨pk, pv⟩ := p
        simp only at c0 c1 hke HE
        go_wp2_with fail
        go_ret2
        exact ⟨by rw [HE.out]; rfl, TT.out⟩
      | false =>
        have HNX : Hid (∀ (j : Nat) (x : Pq2), j < i + 1 → M[j]? = some x → (x.k.toList == key.toList) = false) := Lib.hid (fun j x hj hx => by
          by_cases h : j < i
          · exact HNO.out j x h hx
          · obtain rfl : j = i := by omega
            rw [HP.out] at hx
            cases hx
            exact hke)
        obtain ⟨pk, pv⟩ := p
        simp only at c0 c1 hke
        go_wp2_with fail
        go_roundw
        case rel => exact ⟨i + 1, by omega, by simp [hq], HNX, TT.out⟩
        case measure => simp [intOf, hq]; omega
    · obtain rfl : i = n := by omega
      have HE : Hid (R = (ByteArray.empty, 7)) := Lib.hid (by rw [← HRR.out]; exact getP_no (fun j x hx => HNO.out j x (by rw [← HN.out]; exact (List.getElem?_eq_some_iff.1 hx).1) hx))
      go_wp2_with fail
      go_ret2
      exact ⟨by rw [HE.out]; rfl, TT.out⟩
set_option maxHeartbeats 8000000 in
theorem refDrop10 (M : List Pq2) (v : Value) (key : ByteArray) (w : World) (h : Px w v M) (hb : M.length ≤ 100000) :
    Calls Try.prog 69 #[v, .string key] w fun e w' => ∃ v', e = .returned (.tuple #[v', .int .i64 (getP M key).2]) ∧ (if (getP M key).2 = 0 then Po w.heap.size w' v' (drpP M key) else v' = v) ∧ Turn (fun _ => False) w w' := by
  have HG := Lib.hid (refGet10 M v key w h)
  obtain ⟨A, c, rfl, hl, hr⟩ := h
  obtain ⟨n, hn⟩ : ∃ n, M.length = n := ⟨_, rfl⟩
  have HN := Lib.hid hn
  have HR := Lib.hid hr
  rw [hn] at hl hb HG ⊢
  clear hn hr
  obtain ⟨gv, hgv⟩ : ∃ z, (getP M key).1 = z := ⟨_, rfl⟩
  obtain ⟨gf, hgf⟩ : ∃ z, (getP M key).2 = z := ⟨_, rfl⟩
  rw [hgv, hgf] at HG
  rw [hgf]
  clear hgv
  by_cases hz : gf = 0
  · subst hz
    simp only [if_true]
    clear hgf
    obtain ⟨R, hR⟩ : ∃ R, drpP M key = R := ⟨_, rfl⟩
    have HRR := Lib.hid hR
    rw [hR]
    clear hR
    go_enter Try.func69, Try.ntmps69
    go_wp2_with (go_at_call 50; refine HG.out.mono ?_; rintro e wg ⟨rfl, htg⟩; have TG := Lib.hid htg; clear htg)
    go_loopw [8, 9] (fun v8 v9 wr => ∃ (i : Nat) (F : List Pq2), i ≤ n ∧ v9 = .int .i64 i ∧ Hid (drpP (M.take i) key = F) ∧ Hid (F.length ≤ i) ∧ Po w.heap.size wr v8 F ∧ Turn (fun _ => False) w wr) (fun _ v9 _ => n - (intOf v9).toNat)
    case atStart => exact ⟨0, [], Nat.zero_le _, rfl, Lib.hid rfl, Lib.hid (Nat.le_refl _), po_nil _ _, TG.out⟩
    case round =>
      clear TG
      obtain ⟨i, F, hi, rfl, HST, HFB, ho, ht⟩ := hrel
      obtain ⟨wx, rfl⟩ : ∃ W, W = wr := ⟨_, rfl⟩
      obtain ⟨AF, cF, rfl⟩ := own_slice_ ho
      obtain ⟨f, hf⟩ : ∃ f, F.length = f := ⟨_, rfl⟩
      have HFL := Lib.hid hf
      have TT := Lib.hid ht
      rw [hf] at ho HFB ⊢
      have HO := Lib.hid ho
      have hfb := HFB.out
      clear ho ht hf
      by_cases hlt : i < n
      · have hl1 : (i : Int) < (n : Int) := by omega
        have hl0 : (0 : Int) ≤ (i : Int) := by omega
        have hq := wrap_of ((i : Int) + 1) (by omega) (by omega)
        obtain ⟨p, hp⟩ : ∃ p, M[i]? = some p := ⟨_, List.getElem?_eq_getElem (by rw [HN.out]; exact hlt)⟩
        have HP := Lib.hid hp
        obtain ⟨b, o, rfl, hb1, hc⟩ := HR.out.pair (by rw [HN.out]; omega)
        obtain ⟨c0, c1⟩ := hc wx TT.out i p hp
        obtain ⟨pk, pv⟩ := p
        simp only at c0 c1
        clear hp hb1 hc
        cases hke : (pk.toList == key.toList) with
        | true =>
          have hkn : (pk.toList != key.toList) = false := by simp only [bne, hke]; rfl
          have HNX : Hid (drpP (M.take (i + 1)) key = F) := Lib.hid (by rw [take_next HP.out]; unfold drpP; rw [List.filter_append]; have := HST.out; unfold drpP at this; rw [this]; simp [hke])
          go_wp2_with fail
          go_roundw
          case rel => exact ⟨i + 1, F, by omega, by simp [hq], HNX, Lib.hid (by have := HFL.out; omega), HO.out, TT.out⟩
          case measure => simp [intOf, hq]; omega
        | false =>
          have hkn : (pk.toList != key.toList) = true := by simp only [bne, hke]; rfl
          have HNX : Hid (drpP (M.take (i + 1)) key = F ++ [⟨pk, pv⟩]) := Lib.hid (by rw [take_next HP.out]; unfold drpP; rw [List.filter_append]; have := HST.out; unfold drpP at this; rw [this]; simp [hke])
          go_wp2_with (at_builtin; refine wpList_app1p rfl _ _ rfl w.heap.size (.slice AF f cF) F f wx.heap.size ⟨pk, pv⟩ rfl HFL.out (HO.out.still ((Turn.refl _ _).alloc _)) rfl (Blk.new wx 61 [.string pk, .string pv]) (by omega) (by have := TT.out.size; rw [World.size_alloc]; omega) ?_; intro A8 c8 w8 ho7 ht7; have O8 := Lib.hid ho7; have T8 := Lib.hid ((TT.out.alloc (.cells #[.string pk, .string pv] 61)).trans_new ht7 (fun k hk h => by have := (own_ge9 HO.out k h).1; omega)); clear ho7 ht7)
          go_roundw
          case rel => exact ⟨i + 1, _, by omega, by simp [hq], HNX, Lib.hid (by rw [List.length_append]; simp only [List.length_singleton]; have := HFL.out; omega), O8.out, T8.out⟩
          case measure => simp [intOf, hq]; omega
      · obtain rfl : i = n := by omega
        have HALL : Hid (R = F) := Lib.hid (by rw [← HRR.out, ← HST.out, ← HN.out, List.take_length])
        go_wp2_with fail
        go_ret2
        exact ⟨_, rfl, by rw [HALL.out]; exact HO.out, TT.out⟩
  · simp only [if_neg hz]
    have hgn : (gf != 0) = true := by simpa using hz
    have hg7 : gf = 7 := by
      rw [← hgf] at hz ⊢
      unfold getP at hz ⊢
      split
      · rename_i p e
        rw [e] at hz
        exact absurd rfl hz
      · rfl
    clear hgf hgn hz
    subst hg7
    go_enter Try.func69, Try.ntmps69
    go_wp2_with (go_at_call 50; refine HG.out.mono ?_; rintro e wg ⟨rfl, htg⟩; have TG := Lib.hid htg; clear htg)
    go_ret2
    exact ⟨_, rfl, rfl, TG.out⟩
end Go.Proofs.Ytobddfpdijmgiaa
/- The document's changes done to pairs (ambryref12.Changed). -/
namespace Go.Proofs.Ytobddfpdijmgiaa
open Go.RowKit
set_option linter.unusedVariables false
set_option linter.unusedSimpArgs false
set_option maxRecDepth 100000

def chgP (P : List Pq2) (x : Cg) : List Pq2 := if x.d then drpP P x.k else putP P ⟨x.k, x.v⟩
theorem drp_no {P : List Pq2} {k : ByteArray} (h : ¬ (getP P k).2 = 0) : drpP P k = P := by
  unfold drpP
  rw [List.filter_eq_self]
  intro x hx
  unfold getP at h
  cases e : P.find? (fun p => p.k.toList == k.toList) with
  | some p => rw [e] at h; exact absurd rfl h
  | none =>
    rw [List.find?_eq_none] at e
    simpa using e x hx
theorem pst_len (z : Pq2) (st : List Pq2 × Bool) (x : Pq2) : (pst z st x).1.length + (if (pst z st x).2 then 0 else 1) ≤ st.1.length + (if st.2 then 0 else 1) + 1 := by
  unfold pst
  split
  · split
    · rename_i h
      simp at h
      simp [h.1]
    · cases st.2 <;> simp
  · cases h2 : st.2 <;> cases h3 : lt14 x.k z.k <;> simp [h2, h3] <;> omega
theorem put_fold_len (z : Pq2) : ∀ (L : List Pq2) (st : List Pq2 × Bool), (L.foldl (pst z) st).1.length + (if (L.foldl (pst z) st).2 then 0 else 1) ≤ st.1.length + (if st.2 then 0 else 1) + L.length
  | [], st => by simp only [List.foldl_nil, List.length_nil, Nat.add_zero]; exact Nat.le_refl _
  | x :: L, st => by
    rw [List.foldl_cons, List.length_cons]
    have h1 := put_fold_len z L (pst z st x)
    have h2 := pst_len z st x
    omega
theorem put_len (L : List Pq2) (z : Pq2) : (putP L z).length ≤ L.length + 1 := by
  have h := put_fold_len z L ([], false)
  unfold putP
  split
  · rename_i e
    rw [e] at h
    simp at h
    omega
  · rename_i e
    simp [e] at h
    rw [List.length_append, List.length_singleton]
    omega
theorem pst_mem {z p : Pq2} {st : List Pq2 × Bool} {x : Pq2} (h : p ∈ (pst z st x).1) : p ∈ st.1 ∨ p = z ∨ p = x := by
  unfold pst at h
  split at h
  · split at h
    · simp at h; rcases h with h | h; exact .inl h; exact .inr (.inl h)
    · exact .inl h
  · simp at h
    rcases h with h | h
    · split at h
      · simp at h; rcases h with h | h; exact .inl h; exact .inr (.inl h)
      · exact .inl h
    · exact .inr (.inr h)
theorem put_fold_mem {z p : Pq2} : ∀ (L : List Pq2) (st : List Pq2 × Bool), p ∈ (L.foldl (pst z) st).1 → p ∈ st.1 ∨ p = z ∨ p ∈ L
  | [], st, h => .inl h
  | x :: L, st, h => by
    rw [List.foldl_cons] at h
    rcases put_fold_mem L _ h with h | h | h
    · rcases pst_mem h with h | h | h
      · exact .inl h
      · exact .inr (.inl h)
      · exact .inr (.inr (by simp [h]))
    · exact .inr (.inl h)
    · exact .inr (.inr (by simp [h]))
theorem put_mem {z p : Pq2} {L : List Pq2} (h : p ∈ putP L z) : p = z ∨ p ∈ L := by
  unfold putP at h
  split at h
  · rcases put_fold_mem L _ h with h | h
    · simp at h
    · exact h
  · rcases List.mem_append.1 h with h | h
    · rcases put_fold_mem L _ h with h | h
      · simp at h
      · exact h
    · exact .inl (by simpa using h)
theorem drp_mem {p : Pq2} {L : List Pq2} {k : ByteArray} (h : p ∈ drpP L k) : p ∈ L := (List.mem_filter.1 h).1
theorem drp_len (L : List Pq2) (k : ByteArray) : (drpP L k).length ≤ L.length := List.length_filter_le _ _
theorem chg_len (P : List Pq2) (x : Cg) : (chgP P x).length ≤ P.length + 1 := by
  unfold chgP
  split
  · have := drp_len P x.k; omega
  · exact put_len _ _
theorem chg_small {P : List Pq2} {x : Cg} (h : ∀ p ∈ P, p.k.size ≤ 140737488351232) (hx : x.k.size ≤ 128) : ∀ p ∈ chgP P x, p.k.size ≤ 140737488351232 := fun p hp => by
  unfold chgP at hp
  split at hp
  · exact h p (drp_mem hp)
  · rcases put_mem hp with rfl | hp
    · show x.k.size ≤ _; omega
    · exact h p hp
set_option maxHeartbeats 8000000 in
theorem refChanged12 (P : List Pq2) (v : Value) (C : List Cg) (vc : Value) (w : World) (h : Px w v P) (hc : Cx w vc C) (hok : ∀ x ∈ C, x.k.size ≤ 128 ∧ x.v.size ≤ 200) (hks : ∀ p ∈ P, p.k.size ≤ 140737488351232) (hb : P.length ≤ 50000) (hcb : C.length ≤ 1000) :
    Calls Try.prog 27 #[v, vc] w fun e w' => ∃ v', e = .returned (.tuple #[v', .bool true]) ∧ Px w' v' (C.foldl chgP P) ∧ (v' = v ∨ ∀ b, vb v' = some b → w.heap.size ≤ b) ∧ Turn (fun _ => False) w w' := by
  obtain ⟨AC, cC, rfl, hcl, hcr⟩ := hc
  obtain ⟨A, c, rfl, hl, hr⟩ := h
  obtain ⟨n, hn⟩ : ∃ n, C.length = n := ⟨_, rfl⟩
  have HN := Lib.hid hn
  have HP0 : Hid (Px w (.slice A P.length c) P) := Lib.hid ⟨A, c, rfl, hl, hr⟩
  have HCR := Lib.hid hcr
  have HOK := Lib.hid hok
  have HKS := Lib.hid hks
  have HB := Lib.hid hb
  rw [hn] at hcl hcb ⊢
  obtain ⟨pn, hpn⟩ : ∃ n, P.length = n := ⟨_, rfl⟩
  rw [hpn] at HP0 HB hl ⊢
  clear hn hcr hok hks hpn hr hb
  go_enter Try.func27, Try.ntmps27
  go_wp2_with fail
  go_loopw [6] (fun v6 wr => ∃ i : Nat, i ≤ n ∧ v6 = .int .i64 i ∧ Turn (fun _ => False) w wr) (fun v6 _ => n - (intOf v6).toNat)
  case atStart => exact ⟨0, Nat.zero_le _, rfl, Turn.refl _ _⟩
  case round =>
    obtain ⟨i, hi, rfl, ht⟩ := hrel
    obtain ⟨wx, rfl⟩ : ∃ W, W = wr := ⟨_, rfl⟩
    have TT := Lib.hid ht
    clear ht
    by_cases hlt : i < n
    · have hl1 : (i : Int) < (n : Int) := by omega
      have hl0 : (0 : Int) ≤ (i : Int) := by omega
      have hq := wrap_of ((i : Int) + 1) (by omega) (by omega)
      obtain ⟨x, hx⟩ : ∃ x, C[i]? = some x := ⟨_, List.getElem?_eq_getElem (by rw [HN.out]; exact hlt)⟩
      obtain ⟨o1, o2⟩ := HOK.out x (List.mem_of_getElem? hx)
      obtain ⟨b, o, rfl, hb1, hc1⟩ := HCR.out.chg (by rw [HN.out]; omega)
      obtain ⟨c0, c1, c2⟩ := hc1 wx TT.out i x hx
      obtain ⟨xk, xv, xd⟩ := x
      simp only at c0 c1 c2 o1 o2
      have hg1 : ¬ ((128 : Int) < (xk.size : Int)) := by omega
      have hg2 : ¬ ((200 : Int) < (xv.size : Int)) := by omega
      clear hx hb1 hc1
      go_wp2_with fail
      go_roundw
      case rel => exact ⟨i + 1, by omega, by simp [hq], TT.out⟩
      case measure => simp [intOf, hq]; omega
    · obtain rfl : i = n := by omega
      have T1 := TT
      obtain ⟨w1, rfl⟩ : ∃ W, W = wx := ⟨_, rfl⟩
      clear TT
      go_wp2_with fail
      go_loopw [0, 7, 41] (fun v0 v7 v41 wr => ∃ (j : Nat) (F : List Pq2) (A0 : Option Addr) (f c0 : Nat), j ≤ i ∧ v7 = .int .i64 j ∧ v0 = .slice A0 f c0 ∧ Hid ((C.take j).foldl chgP P = F) ∧ Hid (F.length ≤ pn + j) ∧ Hid (∀ p ∈ F, p.k.size ≤ 140737488351232) ∧ Hid (Px wr (.slice A0 f c0) F) ∧ Hid (Value.slice A0 f c0 = .slice A pn c ∨ ∀ b, vb (.slice A0 f c0) = some b → w.heap.size ≤ b) ∧ Turn (fun _ => False) w wr) (fun _ v7 _ _ => i - (intOf v7).toNat)
      case atStart => exact ⟨0, P, A, pn, c, Nat.zero_le _, rfl, rfl, Lib.hid rfl, Lib.hid (by have := HP0.out; obtain ⟨_, _, e, _⟩ := this; injection e with _ e2 _; omega), HKS, Lib.hid (HP0.out.still T1.out), Lib.hid (.inl rfl), T1.out⟩
      case round =>
        clear T1 w1
        obtain ⟨j, F, A0, f, c0, hj, rfl, rfl, HST, HFB, HSM, HPX, HWH, ht⟩ := hrel
        obtain ⟨wx, rfl⟩ : ∃ W, W = wr := ⟨_, rfl⟩
        have TT := Lib.hid ht
        clear ht
        by_cases hlt : j < i
        · have hl1 : (j : Int) < (i : Int) := by omega
          have hl0 : (0 : Int) ≤ (j : Int) := by omega
          have hq := wrap_of ((j : Int) + 1) (by omega) (by omega)
          obtain ⟨x, hx⟩ : ∃ x, C[j]? = some x := ⟨_, List.getElem?_eq_getElem (by rw [HN.out]; exact hlt)⟩
          have HX := Lib.hid hx
          obtain ⟨o1, o2⟩ := HOK.out x (List.mem_of_getElem? hx)
          obtain ⟨b, o, rfl, hb1, hc1⟩ := HCR.out.chg (by rw [HN.out]; omega)
          have HCC := Lib.hid (fun X (hX : Turn (fun _ => False) wx X) => hc1 X (TT.out.trans hX) j x hx)
          obtain ⟨c1, c2, c3⟩ := hc1 wx TT.out j x hx
          have hfb : F.length ≤ 100000 := by have := HFB.out; have := HB.out; omega
          obtain ⟨F2, hF2⟩ : ∃ G, chgP F x = G := ⟨_, rfl⟩
          have HF2 := Lib.hid hF2
          have HST2 : Hid ((C.take (j + 1)).foldl chgP P = F2) := Lib.hid (by rw [take_next hx, List.foldl_append, HST.out, ← hF2]; rfl)
          have HFB2 : Hid (F2.length ≤ pn + (j + 1)) := Lib.hid (by have := chg_len F x; rw [hF2] at this; have := HFB.out; omega)
          have HSM2 : Hid (∀ p ∈ F2, p.k.size ≤ 140737488351232) := Lib.hid (hF2 ▸ chg_small HSM.out o1)
          obtain ⟨xk, xv, xd⟩ := x
          simp only at c1 c2 c3 o1 o2 HCC
          unfold chgP at hF2
          simp only at hF2
          clear hx hb1 hc1 HST HFB HF2
          cases xd with
          | true =>
            simp only [if_true] at hF2
            have HD := Lib.hid (refDrop10 F _ xk wx HPX.out hfb)
            have HD2 : Hid (Calls Try.prog 69 #[.slice A0 f c0, .string xk] wx fun e w' => ∃ (A9 : Option Addr) (n9 c9 : Nat) (g9 : Int), e = .returned (.tuple #[.slice A9 n9 c9, .int .i64 g9]) ∧ Px w' (.slice A9 n9 c9) F2 ∧ (Value.slice A9 n9 c9 = .slice A pn c ∨ ∀ b, vb (.slice A9 n9 c9) = some b → w.heap.size ≤ b) ∧ Turn (fun _ => False) wx w') := Lib.hid (by
              refine HD.out.mono fun e w' ⟨v', h1, h2, h3⟩ => ?_
              by_cases hz : (getP F xk).2 = 0
              · rw [if_pos hz] at h2
                obtain ⟨A9, c9, e9⟩ := own_slice_ h2
                subst e9
                exact ⟨A9, _, c9, _, h1, hF2 ▸ Po.px h2 (by have := drp_len F xk; omega), .inr (fun b hb => by have := own_ge9 h2 b (by cases A9 <;> simp_all [vb, Value.ownBlock]); have := TT.out.size; omega), h3⟩
              · rw [if_neg hz] at h2
                subst h2
                rw [drp_no hz] at hF2
                exact ⟨A0, f, c0, _, h1, hF2 ▸ HPX.out.still h3, HWH.out, h3⟩)
            clear HD hF2
            go_wp2_with (go_at_call 69; refine HD2.out.mono ?_; rintro e w2 ⟨A9, n9, c9, g9, rfl, hp9, hw9, ht9⟩; have P9 := Lib.hid hp9; have W9 := Lib.hid hw9; have T9 := Lib.hid (TT.out.trans ht9); clear hp9 hw9 ht9)
            go_roundw
            case rel => exact ⟨j + 1, F2, A9, n9, c9, by omega, by simp [hq], rfl, HST2, HFB2, HSM2, P9, W9, T9.out⟩
            case measure => simp [intOf, hq]; omega
          | false =>
            simp only [Bool.false_eq_true, if_false] at hF2
            have HD2 : Hid (∀ X, Turn (fun _ => False) wx X → Calls Try.prog 70 #[.slice A0 f c0, .string xk, .string xv] X fun e w' => ∃ v, e = .returned v ∧ ∃ (A9 : Option Addr) (n9 c9 : Nat), v = .tuple #[.slice A9 n9 c9, .int .i64 0] ∧ Px w' (.slice A9 n9 c9) F2 ∧ (Value.slice A9 n9 c9 = .slice A pn c ∨ ∀ b, vb (.slice A9 n9 c9) = some b → w.heap.size ≤ b) ∧ Turn (fun _ => False) wx w') := Lib.hid (fun X hX => by
              refine (refPut10 F _ xk xv X (HPX.out.still hX) o1 o2 HSM.out hfb).mono fun e w' ⟨v', h1, h2, h3⟩ => ?_
              obtain ⟨A9, c9, e9⟩ := own_slice_ h2
              subst e9
              exact ⟨_, h1, A9, _, c9, rfl, hF2 ▸ Po.px h2 (by have := put_len F ⟨xk, xv⟩; omega), .inr (fun b hb => by have := own_ge9 h2 b (by cases A9 <;> simp_all [vb, Value.ownBlock]); have := TT.out.size; have := hX.size; omega), hX.trans h3⟩)
            clear hF2
            go_wp2_with fail
-- r11
            have T0 : Hid (Turn (fun _ => False) wx wx.drew) := Lib.hid (Turn.refl _ _).drew
            refine wp_region_noPanic ?_
            refine wp_region_held_drew (S := (fun X => Turn (fun _ => False) wx X)) (by kernel_rfl) T0.out (fun hHeld => ?_)
            clear hHeld
            refine wpAnyH_take (i := 0) (v := ?_) rfl (by kernel_rfl) (by kernel_rfl) (by kernel_rfl) (fun _ _ _ h => h) (Or.inl ⟨by rfl, ?_⟩) (by assumption) ?_
            rotate_left 1
            · intro w' hSw
              go_simp
              all_goals first | with_reducible rfl | (rw [if_neg (by omega)]; done) | (rw [if_pos (by omega)]; done) | (rw [if_neg (by omega)]; with_reducible rfl) | (rw [if_pos (by omega)]; with_reducible rfl)
            try simp only [List.getElem_toArray, List.getElem_cons_zero, List.getElem_cons_succ, Act.put, List.setIfInBounds_toArray, List.set_cons_zero, List.set_cons_succ]
            refine wpAnyH_take (i := 1) (v := ?_) rfl (by kernel_rfl) (by kernel_rfl) (by kernel_rfl) (fun _ _ _ h => h) (Or.inl ⟨by rfl, ?_⟩) (by assumption) ?_
            rotate_left 1
            · intro w' hSw
              go_simp
              all_goals first | with_reducible rfl | (rw [if_neg (by omega)]; done) | (rw [if_pos (by omega)]; done) | (rw [if_neg (by omega)]; with_reducible rfl) | (rw [if_pos (by omega)]; with_reducible rfl)
            try simp only [List.getElem_toArray, List.getElem_cons_zero, List.getElem_cons_succ, Act.put, List.setIfInBounds_toArray, List.set_cons_zero, List.set_cons_succ]
            refine wpAnyH_take (i := 2) (v := ?_) rfl (by kernel_rfl) (by kernel_rfl) (by kernel_rfl) (fun _ _ _ h => h) (Or.inl ⟨by rfl, ?_⟩) (by assumption) ?_
            rotate_left 1
            · intro w' hSw
              go_simp
              all_goals first | with_reducible rfl | (rw [if_neg (by omega)]; done) | (rw [if_pos (by omega)]; done) | (rw [if_neg (by omega)]; with_reducible rfl) | (rw [if_pos (by omega)]; with_reducible rfl)
            try simp only [List.getElem_toArray, List.getElem_cons_zero, List.getElem_cons_succ, Act.put, List.setIfInBounds_toArray, List.set_cons_zero, List.set_cons_succ]
            refine wpAnyH_take (i := 3) (v := ?_) rfl (by kernel_rfl) (by kernel_rfl) (by kernel_rfl) (fun _ _ _ h => h) (Or.inl ⟨by rfl, ?_⟩) (by assumption) ?_
            rotate_left 1
            · intro w' hSw
              go_simp
              all_goals first | with_reducible rfl | (rw [if_neg (by omega)]; done) | (rw [if_pos (by omega)]; done) | (rw [if_neg (by omega)]; with_reducible rfl) | (rw [if_pos (by omega)]; with_reducible rfl)
            try simp only [List.getElem_toArray, List.getElem_cons_zero, List.getElem_cons_succ, Act.put, List.setIfInBounds_toArray, List.set_cons_zero, List.set_cons_succ]
            refine wpAnyH_take (i := 4) (v := ?_) rfl (by kernel_rfl) (by kernel_rfl) (by kernel_rfl) (fun _ _ _ h => h) (Or.inl ⟨by rfl, ?_⟩) (by assumption) ?_
            rotate_left 1
            · intro w' hSw
              go_simp
              all_goals first | with_reducible rfl | (rw [if_neg (by omega)]; done) | (rw [if_pos (by omega)]; done) | (rw [if_neg (by omega)]; with_reducible rfl) | (rw [if_pos (by omega)]; with_reducible rfl)
            try simp only [List.getElem_toArray, List.getElem_cons_zero, List.getElem_cons_succ, Act.put, List.setIfInBounds_toArray, List.set_cons_zero, List.set_cons_succ]
            refine wpAnyH_take (i := 5) (v := ?_) rfl (by kernel_rfl) (by kernel_rfl) (by kernel_rfl) (fun _ _ _ h => h) (Or.inl ⟨by rfl, ?_⟩) (by assumption) ?_
            rotate_left 1
            · intro w' hSw
              obtain ⟨y0, y1, y2⟩ := HCC.out _ hSw
              go_simp
              all_goals first | with_reducible rfl | (rw [if_neg (by omega)]; done) | (rw [if_pos (by omega)]; done) | (rw [if_neg (by omega)]; with_reducible rfl) | (rw [if_pos (by omega)]; with_reducible rfl)
            try simp only [List.getElem_toArray, List.getElem_cons_zero, List.getElem_cons_succ, Act.put, List.setIfInBounds_toArray, List.set_cons_zero, List.set_cons_succ]
            refine wpAnyH_take (i := 6) (v := ?_) rfl (by kernel_rfl) (by kernel_rfl) (by kernel_rfl) (fun _ _ _ h => h) (Or.inl ⟨by rfl, ?_⟩) (by assumption) ?_
            rotate_left 1
            · intro w' hSw
              go_simp
              all_goals first | with_reducible rfl | (rw [if_neg (by omega)]; done) | (rw [if_pos (by omega)]; done) | (rw [if_neg (by omega)]; with_reducible rfl) | (rw [if_pos (by omega)]; with_reducible rfl)
            try simp only [List.getElem_toArray, List.getElem_cons_zero, List.getElem_cons_succ, Act.put, List.setIfInBounds_toArray, List.set_cons_zero, List.set_cons_succ]
            refine wpAnyH_take (i := 7) (v := ?_) rfl (by kernel_rfl) (by kernel_rfl) (by kernel_rfl) (fun _ _ _ h => h) (Or.inl ⟨by rfl, ?_⟩) (by assumption) ?_
            rotate_left 1
            · intro w' hSw
              go_simp
              all_goals first | with_reducible rfl | (rw [if_neg (by omega)]; done) | (rw [if_pos (by omega)]; done) | (rw [if_neg (by omega)]; with_reducible rfl) | (rw [if_pos (by omega)]; with_reducible rfl)
            try simp only [List.getElem_toArray, List.getElem_cons_zero, List.getElem_cons_succ, Act.put, List.setIfInBounds_toArray, List.set_cons_zero, List.set_cons_succ]
            refine wpAnyH_take (i := 8) (v := ?_) rfl (by kernel_rfl) (by kernel_rfl) (by kernel_rfl) (fun _ _ _ h => h) (Or.inl ⟨by rfl, ?_⟩) (by assumption) ?_
            rotate_left 1
            · intro w' hSw
              go_simp
              all_goals first | with_reducible rfl | (rw [if_neg (by omega)]; done) | (rw [if_pos (by omega)]; done) | (rw [if_neg (by omega)]; with_reducible rfl) | (rw [if_pos (by omega)]; with_reducible rfl)
            try simp only [List.getElem_toArray, List.getElem_cons_zero, List.getElem_cons_succ, Act.put, List.setIfInBounds_toArray, List.set_cons_zero, List.set_cons_succ]
            refine wpAnyH_take (i := 9) (v := ?_) rfl (by kernel_rfl) (by kernel_rfl) (by kernel_rfl) (fun _ _ _ h => h) (Or.inl ⟨by rfl, ?_⟩) (by assumption) ?_
            rotate_left 1
            · intro w' hSw
              go_simp
              all_goals first | with_reducible rfl | (rw [if_neg (by omega)]; done) | (rw [if_pos (by omega)]; done) | (rw [if_neg (by omega)]; with_reducible rfl) | (rw [if_pos (by omega)]; with_reducible rfl)
            try simp only [List.getElem_toArray, List.getElem_cons_zero, List.getElem_cons_succ, Act.put, List.setIfInBounds_toArray, List.set_cons_zero, List.set_cons_succ]
            refine wpAnyH_take (i := 10) (v := ?_) rfl (by kernel_rfl) (by kernel_rfl) (by kernel_rfl) (fun _ _ _ h => h) (Or.inl ⟨by rfl, ?_⟩) (by assumption) ?_
            rotate_left 1
            · intro w' hSw
              obtain ⟨y0, y1, y2⟩ := HCC.out _ hSw
              go_simp
              all_goals first | with_reducible rfl | (rw [if_neg (by omega)]; done) | (rw [if_pos (by omega)]; done) | (rw [if_neg (by omega)]; with_reducible rfl) | (rw [if_pos (by omega)]; with_reducible rfl)
            try simp only [List.getElem_toArray, List.getElem_cons_zero, List.getElem_cons_succ, Act.put, List.setIfInBounds_toArray, List.set_cons_zero, List.set_cons_succ]
            refine wpAnyH_ready (rs := [11]) (by kernel_rfl) (by simp) ?_
            refine AllReadyH.cons rfl (fun K hK => ?_) AllReadyH.nil
            refine step_call rfl 70 Try.f70 _ _ rfl Try.func70 (by kernel_rfl) (by kernel_rfl) _ _ (HD2.out _ T0.out) (by go_simp) ?_
            rintro v9 w9 ⟨A9, n9, c9, rfl, hp9, hw9, ht9⟩
            have P9 := Lib.hid hp9
            have W9 := Lib.hid hw9
            have T9 := Lib.hid ht9
            clear hp9 hw9 ht9
            refine hK.out _ _ T9.out (fun hHeld => ?_)
            clear hHeld hK K
            try simp only [List.getElem_toArray, List.getElem_cons_zero, List.getElem_cons_succ, Act.put, List.setIfInBounds_toArray, List.set_cons_zero, List.set_cons_succ]
            refine wpAnyH_take (i := 12) (v := ?_) rfl (by kernel_rfl) (by kernel_rfl) (by kernel_rfl) (fun _ _ _ h => h) (Or.inl ⟨by rfl, ?_⟩) (by assumption) ?_
            rotate_left 1
            · intro w' hSw
              go_simp
              all_goals first | with_reducible rfl | (rw [if_neg (by omega)]; done) | (rw [if_pos (by omega)]; done) | (rw [if_neg (by omega)]; with_reducible rfl) | (rw [if_pos (by omega)]; with_reducible rfl)
            try simp only [List.getElem_toArray, List.getElem_cons_zero, List.getElem_cons_succ, Act.put, List.setIfInBounds_toArray, List.set_cons_zero, List.set_cons_succ]
            refine wpAnyH_take (i := 13) (v := ?_) rfl (by kernel_rfl) (by kernel_rfl) (by kernel_rfl) (fun _ _ _ h => h) (Or.inl ⟨by rfl, ?_⟩) (by assumption) ?_
            rotate_left 1
            · intro w' hSw
              go_simp
              all_goals first | with_reducible rfl | (rw [if_neg (by omega)]; done) | (rw [if_pos (by omega)]; done) | (rw [if_neg (by omega)]; with_reducible rfl) | (rw [if_pos (by omega)]; with_reducible rfl)
            try simp only [List.getElem_toArray, List.getElem_cons_zero, List.getElem_cons_succ, Act.put, List.setIfInBounds_toArray, List.set_cons_zero, List.set_cons_succ]
            refine wpAnyH_take (i := 14) (v := ?_) rfl (by kernel_rfl) (by kernel_rfl) (by kernel_rfl) (fun _ _ _ h => h) (Or.inl ⟨by rfl, ?_⟩) (by assumption) ?_
            rotate_left 1
            · intro w' hSw
              go_simp
              all_goals first | with_reducible rfl | (rw [if_neg (by omega)]; done) | (rw [if_pos (by omega)]; done) | (rw [if_neg (by omega)]; with_reducible rfl) | (rw [if_pos (by omega)]; with_reducible rfl)
            try simp only [List.getElem_toArray, List.getElem_cons_zero, List.getElem_cons_succ, Act.put, List.setIfInBounds_toArray, List.set_cons_zero, List.set_cons_succ]
            refine wpAnyH_take (i := 15) (v := ?_) rfl (by kernel_rfl) (by kernel_rfl) (by kernel_rfl) (fun _ _ _ h => h) (Or.inl ⟨by rfl, ?_⟩) (by assumption) ?_
            rotate_left 1
            · intro w' hSw
              go_simp
              all_goals first | with_reducible rfl | (rw [if_neg (by omega)]; done) | (rw [if_pos (by omega)]; done) | (rw [if_neg (by omega)]; with_reducible rfl) | (rw [if_pos (by omega)]; with_reducible rfl)
            try simp only [List.getElem_toArray, List.getElem_cons_zero, List.getElem_cons_succ, Act.put, List.setIfInBounds_toArray, List.set_cons_zero, List.set_cons_succ]
            refine wpAnyH_done (by kernel_rfl) ?_ _
            refine NoPanic.normal ?_
            go_wp2_with fail
            go_roundw
            case rel => exact ⟨j + 1, F2, A9, n9, c9, by omega, by simp [hq], rfl, HST2, HFB2, HSM2, P9, W9, TT.out.trans T9.out⟩
            case measure => simp [intOf, hq]; omega
-- r11 end
        · obtain rfl : j = i := by omega
          have HALL : Hid (C.foldl chgP P = F) := Lib.hid (by rw [← HST.out, ← HN.out, List.take_length])
          go_wp2_with fail
          go_ret2
          exact ⟨_, rfl, by rw [HALL.out]; exact HPX.out, HWH.out, TT.out⟩
end Go.Proofs.Ytobddfpdijmgiaa
/- Pairs in order, plain: Put inserts, Drop leaves the rest (keys that rise). -/
namespace Go.Proofs.Ytobddfpdijmgiaa
open Go.RowKit
set_option linter.unusedVariables false
set_option linter.unusedSimpArgs false

/-- Keys of pairs rise. -/
def RisP (L : List Pq2) : Prop := L.Pairwise (fun a b => lt14 a.k b.k = true)
def insP (z : Pq2) : List Pq2 → List Pq2
  | [] => [z]
  | x :: l => if lt14 x.k z.k then x :: insP z l else if x.k.toList == z.k.toList then z :: l else z :: x :: l
theorem neqP {a b : ByteArray} (h : lt14 a b = true) : (b.toList == a.toList) = false := by
  rw [beq_eq_false_iff_ne]
  exact fun e => lt14_ne h e.symm
theorem not_lt14 {a b : ByteArray} (h : lt14 a b = true) : lt14 b a = false := by
  cases h2 : lt14 b a with
  | false => rfl
  | true => have := lt14_trans h h2; rw [lt14_self] at this; cases this
theorem pst_done (z : Pq2) : ∀ (L acc : List Pq2), (∀ x ∈ L, (x.k.toList == z.k.toList) = false) → L.foldl (pst z) (acc, true) = (acc ++ L, true)
  | [], acc, _ => by simp
  | x :: L, acc, h => by
    rw [List.foldl_cons]
    have : pst z (acc, true) x = (acc ++ [x], true) := by
      unfold pst
      rw [h x (by simp)]
      simp
    rw [this, pst_done z L _ (fun y hy => h y (by simp [hy])), List.append_assoc]
    rfl
theorem pst_ins (z : Pq2) : ∀ (L acc : List Pq2), RisP L → (if (L.foldl (pst z) (acc, false)).2 then (L.foldl (pst z) (acc, false)).1 else (L.foldl (pst z) (acc, false)).1 ++ [z]) = acc ++ insP z L
  | [], acc, _ => rfl
  | x :: L, acc, hr => by
    have hr2 := List.pairwise_cons.1 hr
    rw [List.foldl_cons, insP]
    cases h1 : lt14 x.k z.k with
    | true =>
      have : pst z (acc, false) x = (acc ++ [x], false) := by
        unfold pst
        rw [lt14_neq h1]
        simp [h1]
      rw [this, pst_ins z L _ hr2.2, if_pos rfl, List.append_assoc]
      rfl
    | false =>
      simp only [Bool.false_eq_true, if_false]
      have hgt : ∀ y ∈ L, lt14 z.k y.k = true := fun y hy => by
        have h2 := hr2.1 y hy
        cases h3 : lt14 z.k y.k with
        | true => rfl
        | false =>
          exfalso
          cases h4 : lt14 y.k z.k with
          | true => rw [lt14_trans h2 h4] at h1; cases h1
          | false => have e := lt14_eq h4 h3; rw [e] at h2; rw [h2] at h1; cases h1
      have hne : ∀ y ∈ L, (y.k.toList == z.k.toList) = false := fun y hy => neqP (hgt y hy)
      cases h2 : (x.k.toList == z.k.toList) with
      | true =>
        have : pst z (acc, false) x = (acc ++ [z], true) := by
          unfold pst
          rw [h2]
          simp [h1]
        rw [this, pst_done z L _ hne]
        simp
      | false =>
        have : pst z (acc, false) x = (acc ++ [z] ++ [x], true) := by
          unfold pst
          rw [h2]
          simp [h1]
        rw [this, pst_done z L _ hne]
        simp
theorem put_ins {L : List Pq2} (hr : RisP L) (z : Pq2) : putP L z = insP z L := by
  have := pst_ins z L [] hr
  rw [List.nil_append] at this
  exact this
theorem insP_head {z : Pq2} : ∀ {L : List Pq2}, (∀ y ∈ L, lt14 z.k y.k = true) → insP z L = z :: L
  | [], _ => rfl
  | x :: L, h => by
    have h1 := h x (by simp)
    rw [insP, not_lt14 h1, neqP h1]
    rfl
theorem insP_mem {z p : Pq2} : ∀ {L : List Pq2}, p ∈ insP z L → p = z ∨ p ∈ L
  | [], h => .inl (by simpa [insP] using h)
  | x :: L, h => by
    rw [insP] at h
    split at h
    · rcases List.mem_cons.1 h with h | h
      · exact .inr (by simp [h])
      · rcases insP_mem h with h | h
        · exact .inl h
        · exact .inr (by simp [h])
    · split at h
      · rcases List.mem_cons.1 h with h | h
        · exact .inl h
        · exact .inr (by simp [h])
      · rcases List.mem_cons.1 h with h | h
        · exact .inl h
        · exact .inr h
theorem insP_ris {z : Pq2} : ∀ {L : List Pq2}, RisP L → RisP (insP z L)
  | [], _ => by simp [insP, RisP]
  | x :: L, hr => by
    have hr2 := List.pairwise_cons.1 hr
    rw [insP]
    cases h1 : lt14 x.k z.k with
    | true =>
      rw [if_pos rfl]
      refine List.pairwise_cons.2 ⟨fun y hy => ?_, insP_ris hr2.2⟩
      rcases insP_mem hy with rfl | hy
      · exact h1
      · exact hr2.1 y hy
    | false =>
      simp only [Bool.false_eq_true, if_false]
      cases h2 : (x.k.toList == z.k.toList) with
      | true =>
        rw [if_pos rfl]
        have e : x.k = z.k := by
          have e := eq_of_beq h2
          rw [ByteArray.toList_eq, ByteArray.toList_eq] at e
          exact ba_ext e
        exact List.pairwise_cons.2 ⟨fun y hy => by rw [← e]; exact hr2.1 y hy, hr2.2⟩
      | false =>
        simp only [Bool.false_eq_true, if_false]
        have h3 : lt14 z.k x.k = true := by
          cases h4 : lt14 z.k x.k with
          | true => rfl
          | false =>
            have e := lt14_eq h1 h4
            rw [e] at h2
            simp at h2
        refine List.pairwise_cons.2 ⟨fun y hy => ?_, hr⟩
        rcases List.mem_cons.1 hy with rfl | hy
        · exact h3
        · exact lt14_trans h3 (hr2.1 y hy)
theorem drp_ris {L : List Pq2} (hr : RisP L) (k : ByteArray) : RisP (drpP L k) := List.Pairwise.sublist List.filter_sublist hr
theorem chg_ris {P : List Pq2} (hr : RisP P) (x : Cg) : RisP (chgP P x) := by
  unfold chgP
  split
  · exact drp_ris hr _
  · rw [put_ins hr]; exact insP_ris hr
end Go.Proofs.Ytobddfpdijmgiaa
