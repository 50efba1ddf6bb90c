/- Layer 15: Differ. -/
import Derived.Test.YtobddfpdijmgiaaBtI
import Derived.Test.YtobddfpdijmgiaaAppB
import Derived.Test.YtobddfpdijmgiaaSpZ
import Derived.Scope
import Derived.WalkMore
namespace Go.Proofs.Ytobddfpdijmgiaa
open Go.RowKit Go.Shelf
set_option linter.unusedVariables false
set_option linter.unusedSimpArgs false
set_option maxRecDepth 100000
attribute [local go_sem] Oper.semAt_some

def delC (x : Pq2) : Cg := ⟨x.k, ⟨#[]⟩, true⟩
def putC (x : Pq2) : Cg := ⟨x.k, x.v, false⟩
/-- The changes that make the second row of the first. -/
def dif : List Pq2 → List Pq2 → List Cg
  | [], b => b.map putC
  | a, [] => a.map delC
  | x :: a, y :: b => if lt14 x.k y.k then delC x :: dif a (y :: b) else if lt14 y.k x.k then putC y :: dif (x :: a) b else (if x.v.toList == y.v.toList then [] else [putC y]) ++ dif a b
termination_by a b => a.length + b.length
noncomputable def dfr (a b : List Pq2) : List Cg := if risB a && risB b then dif a b else []
theorem dif_nil (b : List Pq2) : dif [] b = b.map putC := by rw [dif]
theorem dif_nil2 (a : List Pq2) : dif a [] = a.map delC := by
  cases a with
  | nil => rw [dif]; rfl
  | cons x a => rw [dif]; simp
theorem dif_cons (x y : Pq2) (a b : List Pq2) : dif (x :: a) (y :: b) = if lt14 x.k y.k then delC x :: dif a (y :: b) else if lt14 y.k x.k then putC y :: dif (x :: a) b else (if x.v.toList == y.v.toList then [] else [putC y]) ++ dif a b := by rw [dif]
theorem dif_len : ∀ (n : Nat) (a b : List Pq2), a.length + b.length ≤ n → (dif a b).length ≤ a.length + b.length := by
  intro n
  induction n with
  | zero =>
    intro a b h
    have ha : a = [] := List.eq_nil_of_length_eq_zero (by omega)
    have hb : b = [] := List.eq_nil_of_length_eq_zero (by omega)
    subst ha hb
    rw [dif_nil]
    simp
  | succ n ih =>
    intro a b h
    cases a with
    | nil => rw [dif_nil]; simp
    | cons x a =>
      cases b with
      | nil => rw [dif_nil2]; simp
      | cons y b =>
        simp only [List.length_cons] at h ⊢
        rw [dif_cons]
        split
        · have := ih a (y :: b) (by simp only [List.length_cons]; omega)
          simp only [List.length_cons] at this ⊢
          omega
        · split
          · have := ih (x :: a) b (by simp only [List.length_cons]; omega)
            simp only [List.length_cons] at this ⊢
            omega
          · have := ih a b (by omega)
            rw [List.length_append]
            split <;> simp <;> omega
theorem dif_ahead {a b : List Pq2} {y : Pq2} (h : ∀ x ∈ a, lt14 y.k x.k = true) : dif a (y :: b) = putC y :: dif a b := by
  cases a with
  | nil => rw [dif_nil, dif_nil]; rfl
  | cons x a =>
    have h1 := h x (by simp)
    rw [dif_cons, not_lt14 h1, h1]
    rfl
theorem dif_same {x y : Pq2} {a b : List Pq2} (hk : x.k = y.k) (hv : x.v = y.v) : dif (x :: a) (y :: b) = dif a b := by
  rw [dif_cons, hk, lt14_self, hv]
  simp
theorem dif_turned {x y : Pq2} {a b : List Pq2} (hr : RisP (x :: a)) (hk : x.k = y.k) (hv : (x.v.toList == y.v.toList) = false) : dif (x :: a) (y :: b) = dif a (y :: b) := by
  rw [dif_cons, hk, lt14_self, hv, dif_ahead (fun z hz => by rw [← hk]; exact (List.pairwise_cons.1 hr).1 z hz)]
  rfl
theorem key_eq15 {a b : ByteArray} (h : (a.toList == b.toList) = true) : a = b := by
  have e := eq_of_beq h
  rw [ByteArray.toList_eq, ByteArray.toList_eq] at e
  exact ba_ext e
theorem Pc.tail {w : World} {b o n c : Nat} {x : Pq2} {L : List Pq2} (h : Pc w (.slice (some ⟨b, o, none⟩) n c) (x :: L)) : n = L.length + 1 ∧ n ≤ c ∧ Pc w (.slice (if c = 1 then some ⟨b, o, none⟩ else some ⟨b, o + 2, none⟩) (n - 1) (c - 1)) L := by
  obtain ⟨⟨A', c', e, hl, hr⟩, hc⟩ := h
  have hnc := hc _ _ _ rfl
  injection e with e1 e2 e3
  subst e1
  have hn : n = L.length + 1 := by rw [e2]; rfl
  refine ⟨hn, hnc, ⟨_, _, by rw [hn]; rfl, by simp at hl; omega, ?_⟩, fun A n' c'' e => by injection e with _ h2 h3; omega⟩
  have := rc_part pc2_len (x :: L) w (some ⟨b, o, none⟩) c 1 n hr hnc
  have e4 : ((x :: L).drop 1).take (n - 1) = L := by rw [hn]; simp
  rw [e4] at this
  simpa [Addr.add] using this
theorem Pc.head {w : World} {A : Option Addr} {n c : Nat} {x : Pq2} {L : List Pq2} (h : Pc w (.slice A n c) (x :: L)) : ∃ b o, A = some ⟨b, o, none⟩ ∧ ∀ X, Turn (fun _ => False) w X → X.cell? ⟨b, o, none⟩ = some (.string x.k) ∧ X.cell? ⟨b, o + 1, none⟩ = some (.string x.v) := by
  obtain ⟨⟨A', c', e, hl, hr⟩, hc⟩ := h
  injection e with e1 e2 e3
  subst e1
  obtain ⟨b, o, e, _, hcc⟩ := hr.pair (by simp)
  exact ⟨b, o, e, fun X hX => by have := hcc X hX 0 x rfl; simpa using this⟩
theorem Pc.len {w : World} {A : Option Addr} {n c : Nat} {L : List Pq2} (h : Pc w (.slice A n c) L) : L.length = n := by
  obtain ⟨⟨A', c', e, hl, hr⟩, hc⟩ := h
  injection e with e1 e2 e3
  exact e2.symm
theorem own_ty15b {w : World} {B t s n : Nat} {v : Value} {xs : List Value} (h : w.ownsRow B t s v n xs) {g t' : Nat} {cs : List Value} (hb : Blk w g t' cs) (hne : t ≠ t') : ∀ b, v.ownBlock = some b → b ≠ g := by
  obtain ⟨_, ⟨rfl, _⟩ | ⟨g', c, cur, rfl, hB, hh, _⟩⟩ := h
  · intro k hk; simp [Value.ownBlock] at hk
  · intro k hk e
    simp [Value.ownBlock] at hk
    subst hk e
    unfold Blk at hb
    rw [hh] at hb
    injection hb with hb
    injection hb with h1 h2
    exact hne h2
set_option maxHeartbeats 16000000 in
theorem differ_15 (A B : List Pq2) (va vb : Value) (w : World) (ha : Pc w va A) (hb : Px w vb B) (hal : A.length ≤ 2000) (hbl : B.length ≤ 2000) :
    Calls Try.prog 47 #[va, vb] w fun e w' => ∃ A' n' c', e = .returned (.slice A' n' c') ∧ Co w.heap.size w' (.slice A' n' c') (dfr A B) ∧ Turn (fun _ => False) w w' := by
  have HRA := Lib.hid (fun X (hX : Turn (fun _ => False) w X) => rise_15 A va X (ha.1.still hX))
  have HRB := Lib.hid (fun X (hX : Turn (fun _ => False) w X) => rise_15 B vb X (hb.still hX))
  obtain ⟨Aa0, ca0, hva, _⟩ := id ha.1
  obtain ⟨na, hna⟩ : ∃ n, A.length = n := ⟨_, rfl⟩
  rw [hna] at hva
  subst hva
  have HA := Lib.hid ha
  obtain ⟨Ab, cb, hvb, _, hrb⟩ := id hb
  obtain ⟨n, hn⟩ : ∃ n, B.length = n := ⟨_, rfl⟩
  rw [hn] at hvb
  subst hvb
  have HN := Lib.hid hn
  have HB := Lib.hid hrb
  have HDL := Lib.hid (dif_len _ A B (Nat.le_refl _))
  have HLN : Hid (A.length ≤ 2000 ∧ B.length ≤ 2000) := Lib.hid ⟨hal, hbl⟩
  have hnl : n ≤ 2000 := by omega
  have hnal : na ≤ 2000 := by omega
  have HNA := Lib.hid hna
  unfold dfr
  clear ha hb hrb hn hal hbl hna
  cases hra : risB A with
  | false =>
    simp only [Bool.false_and, Bool.false_eq_true, if_false]
    rw [hra] at HRA
    go_enter Try.func47, Try.ntmps47
    go_wp2_with fail
    refine wp_scope_straight ?_
    go_wp2_with (go_at_call 98; refine (HRA.out _ (Turn.refl _ _)).mono ?_; rintro e w2 ⟨rfl, ht2⟩; have T2 := Lib.hid ht2; clear ht2)
    try simp only [Exit.noGoto_ret]
    go_ret
    exact ⟨_, _, _, rfl, co_nil _ _, T2.out⟩
  | true =>
    rw [hra] at HRA
    cases hrb : risB B with
    | false =>
      simp only [Bool.true_and, Bool.false_eq_true, if_false]
      rw [hrb] at HRB
      go_enter Try.func47, Try.ntmps47
      go_wp2_with fail
      refine wp_scope_straight ?_
      go_wp2_with (first
        | (go_at_call 98; refine (HRB.out _ T2.out).mono ?_; rintro e w3 ⟨rfl, ht3⟩; have T3 := Lib.hid (T2.out.trans ht3); clear ht3)
        | (go_at_call 98; refine (HRA.out _ (Turn.refl _ _)).mono ?_; rintro e w2 ⟨rfl, ht2⟩; have T2 := Lib.hid ht2; clear ht2))
      try simp only [Exit.noGoto_ret]
      go_ret
      exact ⟨_, _, _, rfl, co_nil _ _, T3.out⟩
    | true =>
      simp only [Bool.true_and, if_true]
      rw [hrb] at HRB
      have HRS := Lib.hid (risB_iff.1 hra)
      obtain ⟨D, hD⟩ : ∃ D, dif A B = D := ⟨_, rfl⟩
      have HD := Lib.hid hD
      rw [hD] at HDL ⊢
      clear hra hrb hD
      go_enter Try.func47, Try.ntmps47
      go_wp2_with fail
      refine wp_scope_straight ?_
      go_wp2_with (first
        | (go_at_call 98; refine (HRB.out _ T2.out).mono ?_; rintro e w3 ⟨rfl, ht3⟩; have T3 := Lib.hid (T2.out.trans ht3); clear ht3)
        | (go_at_call 98; refine (HRA.out _ (Turn.refl _ _)).mono ?_; rintro e w2 ⟨rfl, ht2⟩; have T2 := Lib.hid ht2; clear ht2))
      go_step3
      go_wp2_with fail
      go_loopw [0, 5, 7, 8, 21] (fun v0 v5 _ _ v21 wr => ∃ (i : Nat) (F : List Cg) (Aa : List Pq2) (A0 : Option Addr) (n0 c0 : Nat) (A5 : Option Addr) (f5 c5 : Nat), i ≤ n ∧ v21 = .int .i64 i ∧ v0 = .slice A0 n0 c0 ∧ v5 = .slice A5 f5 c5 ∧ Hid (D = F ++ dif Aa (B.drop i)) ∧ Hid (RisP Aa ∧ Aa.length ≤ 2000) ∧ Hid (F.length = f5) ∧ Hid (Pc w (.slice A0 n0 c0) Aa) ∧ Hid (Co w.heap.size wr (.slice A5 f5 c5) F) ∧ Turn (fun _ => False) w wr) (fun _ _ _ _ v21 _ => n - (intOf v21).toNat)
      case atStart => exact ⟨0, [], A, _, _, _, none, 0, 0, Nat.zero_le _, rfl, rfl, rfl, Lib.hid (by rw [← HD.out]; rfl), Lib.hid ⟨HRS.out, HLN.out.1⟩, Lib.hid rfl, HA, Lib.hid (co_nil _ _), T3.out⟩
      case round =>
        clear T2 T3
        obtain ⟨i, F, Aa, A0, n0, c0, A5, f5, c5, hi, rfl, rfl, rfl, HDF, HRI, HFL, HPA, HCO, ht⟩ := hrel
        obtain ⟨wx, rfl⟩ : ∃ W, W = wr := ⟨_, rfl⟩
        have TT := Lib.hid ht
        by_cases hlt : i < n
        · have hl1 : (i : Int) < (n : Int) := by omega
          have hl0 : (0 : Int) ≤ (i : Int) := by omega
          have hq := wrap_of ((i : Int) + 1) (by omega) (by omega)
          obtain ⟨⟨pk, pv⟩, hp⟩ : ∃ p, B[i]? = some p := ⟨_, List.getElem?_eq_getElem (by rw [HN.out]; exact hlt)⟩
          have HDP : Hid (B.drop i = ⟨pk, pv⟩ :: B.drop (i + 1)) := Lib.hid (by
            have hl := (List.getElem?_eq_some_iff.1 hp).1
            rw [List.drop_eq_getElem_cons hl, (List.getElem?_eq_some_iff.1 hp).2])
          obtain ⟨b, o, rfl, _, hc⟩ := HB.out.pair (by rw [HN.out]; omega)
          obtain ⟨g0, g1⟩ := hc wx ht i _ hp
          simp only at g0 g1
          obtain ⟨kb, hkb⟩ : ∃ kb, wx.heap.size = kb := ⟨_, rfl⟩
          obtain ⟨W2, hW2⟩ : ∃ W, wx.alloc (.cells #[.string pk, .string pv] 61) = W := ⟨_, rfl⟩
          have T2 : Hid (Turn (fun _ => False) w W2) := Lib.hid (hW2 ▸ ht.alloc _)
          have PB2 : Hid (Blk W2 kb 61 [.string pk, .string pv]) := Lib.hid (hW2 ▸ Blk.new_ _ _ _ hkb)
          have CO2 : Hid (Co w.heap.size W2 (.slice A5 f5 c5) F) := Lib.hid (hW2 ▸ HCO.out.still ((Turn.refl _ _).alloc _))
          obtain ⟨rest, hrest⟩ : ∃ r, B.drop (i + 1) = r := ⟨_, rfl⟩
          have HREST := Lib.hid hrest
          have HD2 : Hid (D = F ++ dif Aa (⟨pk, pv⟩ :: rest)) := Lib.hid (by rw [← hrest, ← HDP.out]; exact HDF.out)
          have hkw : w.heap.size ≤ kb := by rw [← hkb]; exact ht.size
          clear hp hc ht hrest HDF HCO
          go_upto_region 7 with fail
          try rw [hkb]
          clear hW2 hkb g0 g1
          go_loopw [0, 5, 8] (fun v0 v5 _ wr => ∃ (F : List Cg) (Aa : List Pq2) (A0 : Option Addr) (n0 c0 : Nat) (A5 : Option Addr) (f5 c5 : Nat), v0 = .slice A0 n0 c0 ∧ v5 = .slice A5 f5 c5 ∧ Hid (D = F ++ dif Aa (⟨pk, pv⟩ :: rest)) ∧ Hid (RisP Aa ∧ Aa.length ≤ 2000) ∧ Hid (F.length = f5) ∧ Hid (Pc w (.slice A0 n0 c0) Aa) ∧ Hid (Co w.heap.size wr (.slice A5 f5 c5) F) ∧ Blk wr kb 61 [.string pk, .string pv] ∧ Turn (fun _ => False) w wr) (fun v0 _ _ _ => (match v0 with | .slice _ n _ => n | _ => 0))
          case atStart => exact ⟨F, Aa, A0, n0, c0, A5, f5, c5, rfl, rfl, HD2, HRI, HFL, HPA, CO2, PB2.out, T2.out⟩
          case round =>
            clear PB2 CO2 T2 HD2 HFL HRI HPA
            obtain ⟨F, Aa, A0, n0, c0, A5, f5, c5, rfl, rfl, HDF, HRI, HFL, HPA, HCO, hpb, ht⟩ := hrel
            obtain ⟨wy, rfl⟩ : ∃ W, W = wr := ⟨_, rfl⟩
            have TY := Lib.hid ht
            have PB := Lib.hid hpb
            have HFB : Hid (f5 ≤ 4000) := Lib.hid (by have h1 := HDL.out; rw [HDF.out, List.length_append, HFL.out] at h1; have := HLN.out; omega)
            clear ht hpb
            cases Aa with
            | nil =>
              obtain rfl : n0 = 0 := HPA.out.len.symm
              go_wp2_with fail
              have T0 : Hid (Turn (fun _ => False) wy wy.drew) := Lib.hid (Turn.refl _ _).drew
              refine wp_region_noPanic ?_
              refine wp_region_held_drew (S := (fun X => Turn (fun _ => False) wy X)) (by kernel_rfl) T0.out (fun hHeld => ?_)
              clear hHeld
              refine wpAnyH_take (i := 0) (v := ?_) rfl (by kernel_rfl) (by kernel_rfl) (by kernel_rfl) (fun _ _ _ h => h) (Or.inl ⟨by rfl, ?_⟩) (by assumption) ?_
              rotate_left 1
              · intro w' hSw
                go_simp
                all_goals first | with_reducible rfl | (rw [if_neg (by omega)]; done) | (rw [if_pos (by omega)]; done) | (rw [if_neg (by omega)]; with_reducible rfl) | (rw [if_pos (by omega)]; with_reducible rfl)
              try simp only [List.getElem_toArray, List.getElem_cons_zero, List.getElem_cons_succ, Act.put, List.setIfInBounds_toArray, List.set_cons_zero, List.set_cons_succ]
              refine wpAnyH_take (i := 1) (v := ?_) rfl (by kernel_rfl) (by kernel_rfl) (by kernel_rfl) (fun _ _ _ h => h) (Or.inl ⟨by rfl, ?_⟩) (by assumption) ?_
              rotate_left 1
              · intro w' hSw
                go_simp
                all_goals first | with_reducible rfl | (rw [if_neg (by omega)]; done) | (rw [if_pos (by omega)]; done) | (rw [if_neg (by omega)]; with_reducible rfl) | (rw [if_pos (by omega)]; with_reducible rfl)
              try simp only [List.getElem_toArray, List.getElem_cons_zero, List.getElem_cons_succ, Act.put, List.setIfInBounds_toArray, List.set_cons_zero, List.set_cons_succ]
              refine wpAnyH_take (i := 2) (v := .bool false) rfl (by kernel_rfl) (by kernel_rfl) (by kernel_rfl) (fun _ _ _ h => h) (Or.inl ⟨by rfl, ?_⟩) (by assumption) ?_
              · intro w' hSw
                go_simp
                all_goals first | (simp; done) | with_reducible rfl | (rw [if_neg (by omega)]; done) | (rw [if_pos (by omega)]; done) | (rw [if_neg (by omega)]; with_reducible rfl) | (rw [if_pos (by omega)]; with_reducible rfl)
              try simp only [List.getElem_toArray, List.getElem_cons_zero, List.getElem_cons_succ, Act.put, List.setIfInBounds_toArray, List.set_cons_zero, List.set_cons_succ]
              refine wpAnyH_take (i := 3) (v := ?_) rfl (by kernel_rfl) (by kernel_rfl) (by kernel_rfl) (fun _ _ _ h => h) (Or.inl ⟨by rfl, ?_⟩) (by assumption) ?_
              rotate_left 1
              · intro w' hSw
                go_simp
                all_goals first | with_reducible rfl | (rw [if_neg (by omega)]; done) | (rw [if_pos (by omega)]; done) | (rw [if_neg (by omega)]; with_reducible rfl) | (rw [if_pos (by omega)]; with_reducible rfl)
              try simp only [List.getElem_toArray, List.getElem_cons_zero, List.getElem_cons_succ, Act.put, List.setIfInBounds_toArray, List.set_cons_zero, List.set_cons_succ]
              refine wpAnyH_take (i := 4) (v := undef) rfl (by kernel_rfl) (by kernel_rfl) (by kernel_rfl) (fun _ _ _ h => h) (Or.inr ⟨by rfl, rfl⟩) (by assumption) ?_
              try simp only [List.getElem_toArray, List.getElem_cons_zero, List.getElem_cons_succ, Act.put, List.setIfInBounds_toArray, List.set_cons_zero, List.set_cons_succ]
              refine wpAnyH_take (i := 5) (v := undef) rfl (by kernel_rfl) (by kernel_rfl) (by kernel_rfl) (fun _ _ _ h => h) (Or.inr ⟨by rfl, rfl⟩) (by assumption) ?_
              try simp only [List.getElem_toArray, List.getElem_cons_zero, List.getElem_cons_succ, Act.put, List.setIfInBounds_toArray, List.set_cons_zero, List.set_cons_succ]
              refine wpAnyH_take (i := 6) (v := undef) rfl (by kernel_rfl) (by kernel_rfl) (by kernel_rfl) (fun _ _ _ h => h) (Or.inr ⟨by rfl, rfl⟩) (by assumption) ?_
              try simp only [List.getElem_toArray, List.getElem_cons_zero, List.getElem_cons_succ, Act.put, List.setIfInBounds_toArray, List.set_cons_zero, List.set_cons_succ]
              refine wpAnyH_take (i := 7) (v := undef) rfl (by kernel_rfl) (by kernel_rfl) (by kernel_rfl) (fun _ _ _ h => h) (Or.inr ⟨by rfl, rfl⟩) (by assumption) ?_
              try simp only [List.getElem_toArray, List.getElem_cons_zero, List.getElem_cons_succ, Act.put, List.setIfInBounds_toArray, List.set_cons_zero, List.set_cons_succ]
              refine wpAnyH_take (i := 8) (v := undef) rfl (by kernel_rfl) (by kernel_rfl) (by kernel_rfl) (fun _ _ _ h => h) (Or.inr ⟨by rfl, rfl⟩) (by assumption) ?_
              try simp only [List.getElem_toArray, List.getElem_cons_zero, List.getElem_cons_succ, Act.put, List.setIfInBounds_toArray, List.set_cons_zero, List.set_cons_succ]
              refine wpAnyH_take (i := 9) (v := undef) rfl (by kernel_rfl) (by kernel_rfl) (by kernel_rfl) (fun _ _ _ h => h) (Or.inr ⟨by rfl, rfl⟩) (by assumption) ?_
              try simp only [List.getElem_toArray, List.getElem_cons_zero, List.getElem_cons_succ, Act.put, List.setIfInBounds_toArray, List.set_cons_zero, List.set_cons_succ]
              refine wpAnyH_take (i := 10) (v := undef) rfl (by kernel_rfl) (by kernel_rfl) (by kernel_rfl) (fun _ _ _ h => h) (Or.inr ⟨by rfl, rfl⟩) (by assumption) ?_
              try simp only [List.getElem_toArray, List.getElem_cons_zero, List.getElem_cons_succ, Act.put, List.setIfInBounds_toArray, List.set_cons_zero, List.set_cons_succ]
              refine wpAnyH_take (i := 11) (v := ?_) rfl (by kernel_rfl) (by kernel_rfl) (by kernel_rfl) (fun _ _ _ h => h) (Or.inl ⟨by rfl, ?_⟩) (by assumption) ?_
              rotate_left 1
              · intro w' hSw
                go_simp
                all_goals first | with_reducible rfl | (rw [if_neg (by omega)]; done) | (rw [if_pos (by omega)]; done) | (rw [if_neg (by omega)]; with_reducible rfl) | (rw [if_pos (by omega)]; with_reducible rfl)
              try simp only [List.getElem_toArray, List.getElem_cons_zero, List.getElem_cons_succ, Act.put, List.setIfInBounds_toArray, List.set_cons_zero, List.set_cons_succ]
              refine wpAnyH_done (by kernel_rfl) ?_ _
              refine NoPanic.normal ?_
              obtain ⟨wz, hwz⟩ : ∃ W, wy.drew = W := ⟨_, rfl⟩
              rw [hwz]
              have TD : Turn (fun _ => False) wy wz := hwz ▸ T0.out
              have Tz := Lib.hid (TY.out.trans TD)
              have PBz := Lib.hid (PB.out.turn TD (fun h => h))
              have COz := Lib.hid (HCO.out.still TD)
              have hsz := Tz.out.size
              have hkz : kb < wz.heap.size := PBz.out.lt
              obtain ⟨z0, z1⟩ := cells2b PBz.out
              clear TD T0 hwz
              go_wp2_with (at_builtin; refine wpList_app1c rfl _ _ rfl w.heap.size (.slice A5 f5 c5) F f5 wz.heap.size (putC ⟨pk, pv⟩) rfl HFL.out (COz.out.still ((Turn.refl _ _).alloc _)) rfl (Blk.new wz 95 [.string pk, .string pv, .bool false]) (by have := HFB.out; omega) (by rw [World.size_alloc]; have := Tz.out.size; omega) ?_; intro A7 c7 w7 ho7 ht7; have O7 := Lib.hid ho7; have T7 := Lib.hid ((Tz.out.alloc (.cells #[.string pk, .string pv, .bool false] 95)).trans_new ht7 (fun k hk h => by have := (own_ge9 COz.out k h).1; omega)); have Q7 := Lib.hid ((PBz.out.alloc (.cells #[.string pk, .string pv, .bool false] 95)).turn ht7 (fun e => own_ty15b COz.out PBz.out (by decide) _ e rfl)); clear ho7 ht7)
              go_roundw
              case rel => exact ⟨i + 1, F ++ [putC ⟨pk, pv⟩], _, _, _, _, A7, f5 + 1, c7, by omega, by simp [hq], rfl, rfl, Lib.hid (by rw [HDF.out, dif_nil, dif_nil, ← HREST.out]; simp), HRI, Lib.hid (by rw [List.length_append, HFL.out]; rfl), HPA, O7, T7.out⟩
              case measure => simp [intOf, hq]; omega
            | cons x a' =>
              obtain ⟨b, o, rfl, hcc⟩ := HPA.out.head
              have HCC := Lib.hid hcc
              have hn1 : 0 < n0 := by have := HPA.out.len; simp at this; omega
              obtain ⟨xk, xv⟩ := x
              simp only at hcc HCC
              clear hcc
              cases hlt2 : lt14 pk xk with
              | true =>
                have hle : (Op.bytesLess xk.toList pk.toList || xk.toList == pk.toList) = false := by rw [leq14, hlt2]; rfl
                have HGT : Hid (∀ x ∈ (⟨xk, xv⟩ :: a' : List Pq2), lt14 pk x.k = true) := Lib.hid (fun x hx => by
                  rcases List.mem_cons.1 hx with rfl | hx
                  · exact hlt2
                  · exact lt14_trans hlt2 ((List.pairwise_cons.1 HRI.out.1).1 x hx))
                clear hlt2
                go_wp2_with fail
                have T0 : Hid (Turn (fun _ => False) wy wy.drew) := Lib.hid (Turn.refl _ _).drew
                refine wp_region_noPanic ?_
                refine wp_region_held_drew (S := (fun X => Turn (fun _ => False) wy X)) (by kernel_rfl) T0.out (fun hHeld => ?_)
                clear hHeld
                refine wpAnyH_take (i := 0) (v := ?_) rfl (by kernel_rfl) (by kernel_rfl) (by kernel_rfl) (fun _ _ _ h => h) (Or.inl ⟨by rfl, ?_⟩) (by assumption) ?_
                rotate_left 1
                · intro w' hSw
                  go_simp
                  all_goals first | with_reducible rfl | (rw [if_neg (by omega)]; done) | (rw [if_pos (by omega)]; done) | (rw [if_neg (by omega)]; with_reducible rfl) | (rw [if_pos (by omega)]; with_reducible rfl)
                try simp only [List.getElem_toArray, List.getElem_cons_zero, List.getElem_cons_succ, Act.put, List.setIfInBounds_toArray, List.set_cons_zero, List.set_cons_succ]
                refine wpAnyH_take (i := 1) (v := ?_) rfl (by kernel_rfl) (by kernel_rfl) (by kernel_rfl) (fun _ _ _ h => h) (Or.inl ⟨by rfl, ?_⟩) (by assumption) ?_
                rotate_left 1
                · intro w' hSw
                  go_simp
                  all_goals first | with_reducible rfl | (rw [if_neg (by omega)]; done) | (rw [if_pos (by omega)]; done) | (rw [if_neg (by omega)]; with_reducible rfl) | (rw [if_pos (by omega)]; with_reducible rfl)
                try simp only [List.getElem_toArray, List.getElem_cons_zero, List.getElem_cons_succ, Act.put, List.setIfInBounds_toArray, List.set_cons_zero, List.set_cons_succ]
                refine wpAnyH_take (i := 2) (v := .bool true) rfl (by kernel_rfl) (by kernel_rfl) (by kernel_rfl) (fun _ _ _ h => h) (Or.inl ⟨by rfl, ?_⟩) (by assumption) ?_
                · intro w' hSw
                  go_simp
                  all_goals first | (simp [hn1]; done) | (simp; omega) | with_reducible rfl | (rw [if_neg (by omega)]; done) | (rw [if_pos (by omega)]; done) | (rw [if_neg (by omega)]; with_reducible rfl) | (rw [if_pos (by omega)]; with_reducible rfl)
                try simp only [List.getElem_toArray, List.getElem_cons_zero, List.getElem_cons_succ, Act.put, List.setIfInBounds_toArray, List.set_cons_zero, List.set_cons_succ]
                refine wpAnyH_take (i := 3) (v := ?_) rfl (by kernel_rfl) (by kernel_rfl) (by kernel_rfl) (fun _ _ _ h => h) (Or.inl ⟨by rfl, ?_⟩) (by assumption) ?_
                rotate_left 1
                · intro w' hSw
                  go_simp
                  all_goals first | with_reducible rfl | (rw [if_neg (by omega)]; done) | (rw [if_pos (by omega)]; done) | (rw [if_neg (by omega)]; with_reducible rfl) | (rw [if_pos (by omega)]; with_reducible rfl)
                try simp only [List.getElem_toArray, List.getElem_cons_zero, List.getElem_cons_succ, Act.put, List.setIfInBounds_toArray, List.set_cons_zero, List.set_cons_succ]
                refine wpAnyH_take (i := 4) (v := ?_) rfl (by kernel_rfl) (by kernel_rfl) (by kernel_rfl) (fun _ _ _ h => h) (Or.inl ⟨by rfl, ?_⟩) (by assumption) ?_
                rotate_left 1
                · intro w' hSw
                  go_simp
                  all_goals first | with_reducible rfl | (rw [if_neg (by omega)]; done) | (rw [if_pos (by omega)]; done) | (rw [if_neg (by omega)]; with_reducible rfl) | (rw [if_pos (by omega)]; with_reducible rfl)
                try simp only [List.getElem_toArray, List.getElem_cons_zero, List.getElem_cons_succ, Act.put, List.setIfInBounds_toArray, List.set_cons_zero, List.set_cons_succ]
                refine wpAnyH_take (i := 5) (v := ?_) rfl (by kernel_rfl) (by kernel_rfl) (by kernel_rfl) (fun _ _ _ h => h) (Or.inl ⟨by rfl, ?_⟩) (by assumption) ?_
                rotate_left 1
                · intro w' hSw
                  go_simp
                  all_goals first | with_reducible rfl | (rw [if_neg (by omega)]; done) | (rw [if_pos (by omega)]; done) | (rw [if_neg (by omega)]; with_reducible rfl) | (rw [if_pos (by omega)]; with_reducible rfl)
                try simp only [List.getElem_toArray, List.getElem_cons_zero, List.getElem_cons_succ, Act.put, List.setIfInBounds_toArray, List.set_cons_zero, List.set_cons_succ]
                refine wpAnyH_take (i := 6) (v := ?_) rfl (by kernel_rfl) (by kernel_rfl) (by kernel_rfl) (fun _ _ _ h => h) (Or.inl ⟨by rfl, ?_⟩) (by assumption) ?_
                rotate_left 1
                · intro w' hSw
                  go_simp
                  all_goals first | with_reducible rfl | (rw [if_neg (by omega)]; done) | (rw [if_pos (by omega)]; done) | (rw [if_neg (by omega)]; with_reducible rfl) | (rw [if_pos (by omega)]; with_reducible rfl)
                try simp only [List.getElem_toArray, List.getElem_cons_zero, List.getElem_cons_succ, Act.put, List.setIfInBounds_toArray, List.set_cons_zero, List.set_cons_succ]
                refine wpAnyH_take (i := 7) (v := ?_) rfl (by kernel_rfl) (by kernel_rfl) (by kernel_rfl) (fun _ _ _ h => h) (Or.inl ⟨by rfl, ?_⟩) (by assumption) ?_
                rotate_left 1
                · intro w' hSw
                  obtain ⟨y0, y1⟩ := HCC.out _ (TY.out.trans hSw)
                  go_simp
                  all_goals first | with_reducible rfl | (rw [if_neg (by omega)]; done) | (rw [if_pos (by omega)]; done) | (rw [if_neg (by omega)]; with_reducible rfl) | (rw [if_pos (by omega)]; with_reducible rfl)
                try simp only [List.getElem_toArray, List.getElem_cons_zero, List.getElem_cons_succ, Act.put, List.setIfInBounds_toArray, List.set_cons_zero, List.set_cons_succ]
                refine wpAnyH_take (i := 8) (v := ?_) rfl (by kernel_rfl) (by kernel_rfl) (by kernel_rfl) (fun _ _ _ h => h) (Or.inl ⟨by rfl, ?_⟩) (by assumption) ?_
                rotate_left 1
                · intro w' hSw
                  go_simp
                  all_goals first | with_reducible rfl | (rw [if_neg (by omega)]; done) | (rw [if_pos (by omega)]; done) | (rw [if_neg (by omega)]; with_reducible rfl) | (rw [if_pos (by omega)]; with_reducible rfl)
                try simp only [List.getElem_toArray, List.getElem_cons_zero, List.getElem_cons_succ, Act.put, List.setIfInBounds_toArray, List.set_cons_zero, List.set_cons_succ]
                refine wpAnyH_take (i := 9) (v := ?_) rfl (by kernel_rfl) (by kernel_rfl) (by kernel_rfl) (fun _ _ _ h => h) (Or.inl ⟨by rfl, ?_⟩) (by assumption) ?_
                rotate_left 1
                · intro w' hSw
                  obtain ⟨y2, y3⟩ := cells2b (PB.out.turn hSw (fun h => h))
                  go_simp
                  all_goals first | with_reducible rfl | (rw [if_neg (by omega)]; done) | (rw [if_pos (by omega)]; done) | (rw [if_neg (by omega)]; with_reducible rfl) | (rw [if_pos (by omega)]; with_reducible rfl)
                try simp only [List.getElem_toArray, List.getElem_cons_zero, List.getElem_cons_succ, Act.put, List.setIfInBounds_toArray, List.set_cons_zero, List.set_cons_succ]
                refine wpAnyH_take (i := 10) (v := .bool false) rfl (by kernel_rfl) (by kernel_rfl) (by kernel_rfl) (fun _ _ _ h => h) (Or.inl ⟨by rfl, ?_⟩) (by assumption) ?_
                · intro w' hSw
                  go_simp
                  all_goals first | (simp [hle]; done) | with_reducible rfl | (rw [if_neg (by omega)]; done) | (rw [if_pos (by omega)]; done) | (rw [if_neg (by omega)]; with_reducible rfl) | (rw [if_pos (by omega)]; with_reducible rfl)
                try simp only [List.getElem_toArray, List.getElem_cons_zero, List.getElem_cons_succ, Act.put, List.setIfInBounds_toArray, List.set_cons_zero, List.set_cons_succ]
                refine wpAnyH_take (i := 11) (v := ?_) rfl (by kernel_rfl) (by kernel_rfl) (by kernel_rfl) (fun _ _ _ h => h) (Or.inl ⟨by rfl, ?_⟩) (by assumption) ?_
                rotate_left 1
                · intro w' hSw
                  go_simp
                  all_goals first | with_reducible rfl | (rw [if_neg (by omega)]; done) | (rw [if_pos (by omega)]; done) | (rw [if_neg (by omega)]; with_reducible rfl) | (rw [if_pos (by omega)]; with_reducible rfl)
                try simp only [List.getElem_toArray, List.getElem_cons_zero, List.getElem_cons_succ, Act.put, List.setIfInBounds_toArray, List.set_cons_zero, List.set_cons_succ]
                refine wpAnyH_done (by kernel_rfl) ?_ _
                refine NoPanic.normal ?_
                obtain ⟨wz, hwz⟩ : ∃ W, wy.drew = W := ⟨_, rfl⟩
                rw [hwz]
                have TD : Turn (fun _ => False) wy wz := hwz ▸ T0.out
                have Tz := Lib.hid (TY.out.trans TD)
                have PBz := Lib.hid (PB.out.turn TD (fun h => h))
                have COz := Lib.hid (HCO.out.still TD)
                have hsz := Tz.out.size
                have hkz : kb < wz.heap.size := PBz.out.lt
                obtain ⟨z0, z1⟩ := cells2b PBz.out
                clear TD T0 hwz
                go_wp2_with (at_builtin; refine wpList_app1c rfl _ _ rfl w.heap.size (.slice A5 f5 c5) F f5 wz.heap.size (putC ⟨pk, pv⟩) rfl HFL.out (COz.out.still ((Turn.refl _ _).alloc _)) rfl (Blk.new wz 95 [.string pk, .string pv, .bool false]) (by have := HFB.out; omega) (by rw [World.size_alloc]; have := Tz.out.size; omega) ?_; intro A7 c7 w7 ho7 ht7; have O7 := Lib.hid ho7; have T7 := Lib.hid ((Tz.out.alloc (.cells #[.string pk, .string pv, .bool false] 95)).trans_new ht7 (fun k hk h => by have := (own_ge9 COz.out k h).1; omega)); have Q7 := Lib.hid ((PBz.out.alloc (.cells #[.string pk, .string pv, .bool false] 95)).turn ht7 (fun e => own_ty15b COz.out PBz.out (by decide) _ e rfl)); clear ho7 ht7)
                go_roundw
                case rel => exact ⟨i + 1, F ++ [putC ⟨pk, pv⟩], _, _, _, _, A7, f5 + 1, c7, by omega, by simp [hq], rfl, rfl, Lib.hid (by rw [HDF.out, dif_ahead HGT.out, ← HREST.out]; simp), HRI, Lib.hid (by rw [List.length_append, HFL.out]; rfl), HPA, O7, T7.out⟩
                case measure => simp [intOf, hq]; omega
              | false =>
                have hle : (Op.bytesLess xk.toList pk.toList || xk.toList == pk.toList) = true := by rw [leq14, hlt2]; rfl
                have HLT2 := Lib.hid hlt2
                clear hlt2
                go_wp2_with fail
                have T0 : Hid (Turn (fun _ => False) wy wy.drew) := Lib.hid (Turn.refl _ _).drew
                refine wp_region_noPanic ?_
                refine wp_region_held_drew (S := (fun X => Turn (fun _ => False) wy X)) (by kernel_rfl) T0.out (fun hHeld => ?_)
                clear hHeld
                refine wpAnyH_take (i := 0) (v := ?_) rfl (by kernel_rfl) (by kernel_rfl) (by kernel_rfl) (fun _ _ _ h => h) (Or.inl ⟨by rfl, ?_⟩) (by assumption) ?_
                rotate_left 1
                · intro w' hSw
                  go_simp
                  all_goals first | with_reducible rfl | (rw [if_neg (by omega)]; done) | (rw [if_pos (by omega)]; done) | (rw [if_neg (by omega)]; with_reducible rfl) | (rw [if_pos (by omega)]; with_reducible rfl)
                try simp only [List.getElem_toArray, List.getElem_cons_zero, List.getElem_cons_succ, Act.put, List.setIfInBounds_toArray, List.set_cons_zero, List.set_cons_succ]
                refine wpAnyH_take (i := 1) (v := ?_) rfl (by kernel_rfl) (by kernel_rfl) (by kernel_rfl) (fun _ _ _ h => h) (Or.inl ⟨by rfl, ?_⟩) (by assumption) ?_
                rotate_left 1
                · intro w' hSw
                  go_simp
                  all_goals first | with_reducible rfl | (rw [if_neg (by omega)]; done) | (rw [if_pos (by omega)]; done) | (rw [if_neg (by omega)]; with_reducible rfl) | (rw [if_pos (by omega)]; with_reducible rfl)
                try simp only [List.getElem_toArray, List.getElem_cons_zero, List.getElem_cons_succ, Act.put, List.setIfInBounds_toArray, List.set_cons_zero, List.set_cons_succ]
                refine wpAnyH_take (i := 2) (v := .bool true) rfl (by kernel_rfl) (by kernel_rfl) (by kernel_rfl) (fun _ _ _ h => h) (Or.inl ⟨by rfl, ?_⟩) (by assumption) ?_
                · intro w' hSw
                  go_simp
                  all_goals first | (simp [hn1]; done) | (simp; omega) | with_reducible rfl | (rw [if_neg (by omega)]; done) | (rw [if_pos (by omega)]; done) | (rw [if_neg (by omega)]; with_reducible rfl) | (rw [if_pos (by omega)]; with_reducible rfl)
                try simp only [List.getElem_toArray, List.getElem_cons_zero, List.getElem_cons_succ, Act.put, List.setIfInBounds_toArray, List.set_cons_zero, List.set_cons_succ]
                refine wpAnyH_take (i := 3) (v := ?_) rfl (by kernel_rfl) (by kernel_rfl) (by kernel_rfl) (fun _ _ _ h => h) (Or.inl ⟨by rfl, ?_⟩) (by assumption) ?_
                rotate_left 1
                · intro w' hSw
                  go_simp
                  all_goals first | with_reducible rfl | (rw [if_neg (by omega)]; done) | (rw [if_pos (by omega)]; done) | (rw [if_neg (by omega)]; with_reducible rfl) | (rw [if_pos (by omega)]; with_reducible rfl)
                try simp only [List.getElem_toArray, List.getElem_cons_zero, List.getElem_cons_succ, Act.put, List.setIfInBounds_toArray, List.set_cons_zero, List.set_cons_succ]
                refine wpAnyH_take (i := 4) (v := ?_) rfl (by kernel_rfl) (by kernel_rfl) (by kernel_rfl) (fun _ _ _ h => h) (Or.inl ⟨by rfl, ?_⟩) (by assumption) ?_
                rotate_left 1
                · intro w' hSw
                  go_simp
                  all_goals first | with_reducible rfl | (rw [if_neg (by omega)]; done) | (rw [if_pos (by omega)]; done) | (rw [if_neg (by omega)]; with_reducible rfl) | (rw [if_pos (by omega)]; with_reducible rfl)
                try simp only [List.getElem_toArray, List.getElem_cons_zero, List.getElem_cons_succ, Act.put, List.setIfInBounds_toArray, List.set_cons_zero, List.set_cons_succ]
                refine wpAnyH_take (i := 5) (v := ?_) rfl (by kernel_rfl) (by kernel_rfl) (by kernel_rfl) (fun _ _ _ h => h) (Or.inl ⟨by rfl, ?_⟩) (by assumption) ?_
                rotate_left 1
                · intro w' hSw
                  go_simp
                  all_goals first | with_reducible rfl | (rw [if_neg (by omega)]; done) | (rw [if_pos (by omega)]; done) | (rw [if_neg (by omega)]; with_reducible rfl) | (rw [if_pos (by omega)]; with_reducible rfl)
                try simp only [List.getElem_toArray, List.getElem_cons_zero, List.getElem_cons_succ, Act.put, List.setIfInBounds_toArray, List.set_cons_zero, List.set_cons_succ]
                refine wpAnyH_take (i := 6) (v := ?_) rfl (by kernel_rfl) (by kernel_rfl) (by kernel_rfl) (fun _ _ _ h => h) (Or.inl ⟨by rfl, ?_⟩) (by assumption) ?_
                rotate_left 1
                · intro w' hSw
                  go_simp
                  all_goals first | with_reducible rfl | (rw [if_neg (by omega)]; done) | (rw [if_pos (by omega)]; done) | (rw [if_neg (by omega)]; with_reducible rfl) | (rw [if_pos (by omega)]; with_reducible rfl)
                try simp only [List.getElem_toArray, List.getElem_cons_zero, List.getElem_cons_succ, Act.put, List.setIfInBounds_toArray, List.set_cons_zero, List.set_cons_succ]
                refine wpAnyH_take (i := 7) (v := ?_) rfl (by kernel_rfl) (by kernel_rfl) (by kernel_rfl) (fun _ _ _ h => h) (Or.inl ⟨by rfl, ?_⟩) (by assumption) ?_
                rotate_left 1
                · intro w' hSw
                  obtain ⟨y0, y1⟩ := HCC.out _ (TY.out.trans hSw)
                  go_simp
                  all_goals first | with_reducible rfl | (rw [if_neg (by omega)]; done) | (rw [if_pos (by omega)]; done) | (rw [if_neg (by omega)]; with_reducible rfl) | (rw [if_pos (by omega)]; with_reducible rfl)
                try simp only [List.getElem_toArray, List.getElem_cons_zero, List.getElem_cons_succ, Act.put, List.setIfInBounds_toArray, List.set_cons_zero, List.set_cons_succ]
                refine wpAnyH_take (i := 8) (v := ?_) rfl (by kernel_rfl) (by kernel_rfl) (by kernel_rfl) (fun _ _ _ h => h) (Or.inl ⟨by rfl, ?_⟩) (by assumption) ?_
                rotate_left 1
                · intro w' hSw
                  go_simp
                  all_goals first | with_reducible rfl | (rw [if_neg (by omega)]; done) | (rw [if_pos (by omega)]; done) | (rw [if_neg (by omega)]; with_reducible rfl) | (rw [if_pos (by omega)]; with_reducible rfl)
                try simp only [List.getElem_toArray, List.getElem_cons_zero, List.getElem_cons_succ, Act.put, List.setIfInBounds_toArray, List.set_cons_zero, List.set_cons_succ]
                refine wpAnyH_take (i := 9) (v := ?_) rfl (by kernel_rfl) (by kernel_rfl) (by kernel_rfl) (fun _ _ _ h => h) (Or.inl ⟨by rfl, ?_⟩) (by assumption) ?_
                rotate_left 1
                · intro w' hSw
                  obtain ⟨y2, y3⟩ := cells2b (PB.out.turn hSw (fun h => h))
                  go_simp
                  all_goals first | with_reducible rfl | (rw [if_neg (by omega)]; done) | (rw [if_pos (by omega)]; done) | (rw [if_neg (by omega)]; with_reducible rfl) | (rw [if_pos (by omega)]; with_reducible rfl)
                try simp only [List.getElem_toArray, List.getElem_cons_zero, List.getElem_cons_succ, Act.put, List.setIfInBounds_toArray, List.set_cons_zero, List.set_cons_succ]
                refine wpAnyH_take (i := 10) (v := .bool true) rfl (by kernel_rfl) (by kernel_rfl) (by kernel_rfl) (fun _ _ _ h => h) (Or.inl ⟨by rfl, ?_⟩) (by assumption) ?_
                · intro w' hSw
                  go_simp
                  all_goals first | (simp [hle]; done) | with_reducible rfl | (rw [if_neg (by omega)]; done) | (rw [if_pos (by omega)]; done) | (rw [if_neg (by omega)]; with_reducible rfl) | (rw [if_pos (by omega)]; with_reducible rfl)
                try simp only [List.getElem_toArray, List.getElem_cons_zero, List.getElem_cons_succ, Act.put, List.setIfInBounds_toArray, List.set_cons_zero, List.set_cons_succ]
                refine wpAnyH_take (i := 11) (v := ?_) rfl (by kernel_rfl) (by kernel_rfl) (by kernel_rfl) (fun _ _ _ h => h) (Or.inl ⟨by rfl, ?_⟩) (by assumption) ?_
                rotate_left 1
                · intro w' hSw
                  go_simp
                  all_goals first | with_reducible rfl | (rw [if_neg (by omega)]; done) | (rw [if_pos (by omega)]; done) | (rw [if_neg (by omega)]; with_reducible rfl) | (rw [if_pos (by omega)]; with_reducible rfl)
                try simp only [List.getElem_toArray, List.getElem_cons_zero, List.getElem_cons_succ, Act.put, List.setIfInBounds_toArray, List.set_cons_zero, List.set_cons_succ]
                refine wpAnyH_done (by kernel_rfl) ?_ _
                refine NoPanic.normal ?_
                obtain ⟨wz, hwz⟩ : ∃ W, wy.drew = W := ⟨_, rfl⟩
                rw [hwz]
                have TD : Turn (fun _ => False) wy wz := hwz ▸ T0.out
                have Tz := Lib.hid (TY.out.trans TD)
                have PBz := Lib.hid (PB.out.turn TD (fun h => h))
                have COz := Lib.hid (HCO.out.still TD)
                have hsz := Tz.out.size
                have hkz : kb < wz.heap.size := PBz.out.lt
                obtain ⟨z0, z1⟩ := cells2b PBz.out
                have TDz := Lib.hid TD
                clear TD T0 hwz
                go_upto_region 8 with fail
                obtain ⟨W4, hW4⟩ : ∃ W, wz.alloc (.cells #[.string xk, .string xv] 61) = W := ⟨_, rfl⟩
                have T4 : Hid (Turn (fun _ => False) w W4) := Lib.hid (hW4 ▸ Tz.out.alloc _)
                have XB4 : Hid (Blk W4 wz.heap.size 61 [.string xk, .string xv]) := Lib.hid (hW4 ▸ Blk.new _ _ _)
                have PB4 : Hid (Blk W4 kb 61 [.string pk, .string pv]) := Lib.hid (hW4 ▸ PBz.out.alloc _)
                have PA4 : Hid (Pc w (.slice (if c0 = 1 then some ⟨b, o, none⟩ else some ⟨b, o + 2, none⟩) (n0 - 1) (c0 - 1)) a') := Lib.hid HPA.out.tail.2.2
                have CO4 : Hid (Co w.heap.size W4 (.slice A5 f5 c5) F) := Lib.hid (hW4 ▸ COz.out.still ((Turn.refl _ _).alloc _))
                obtain ⟨h0, h1⟩ := HCC.out wz Tz.out
                obtain ⟨e0, e1⟩ := cells2b XB4.out
                obtain ⟨f0, f1⟩ := cells2b PB4.out
                go_upto_region 9 with fail
                clear hW4
                obtain ⟨I1, hI1⟩ : ∃ I, (if c0 = 1 then some (⟨b, o, none⟩ : Addr) else some ⟨b, o + 2, none⟩) = I := ⟨_, rfl⟩
                rw [hI1] at PA4
                go_upto_region 10 with fail
                have hnn : n0 - 1 < n0 := by omega
                have HRT : Hid (RisP a' ∧ a'.length ≤ 2000) := Lib.hid ⟨(List.pairwise_cons.1 HRI.out.1).2, by have := HRI.out.2; simp at this; omega⟩
                have hways : ((xk.toList == pk.toList) = true ∧ (xv.toList == pv.toList) = true) ∨ ((xk.toList == pk.toList) = true ∧ (xv.toList == pv.toList) = false ∧ Op.bytesLess xk.toList pk.toList = false) ∨ ((xk.toList == pk.toList) = false ∧ Op.bytesLess xk.toList pk.toList = true) := by
                  cases e1' : (xk.toList == pk.toList) with
                  | true =>
                    cases e2' : (xv.toList == pv.toList) with
                    | true => exact .inl ⟨rfl, rfl⟩
                    | false =>
                      refine .inr (.inl ⟨rfl, rfl, ?_⟩)
                      have := eq_of_beq e1'
                      rw [this]
                      exact bl14_self _
                  | false =>
                    rw [e1', Bool.or_false] at hle
                    exact .inr (.inr ⟨rfl, hle⟩)
                clear hle hI1 h0 h1
                rcases hways with ⟨q1, q2⟩ | ⟨q1, q2, q3⟩ | ⟨q1, q3⟩
                · have HDN : Hid (D = F ++ dif a' (B.drop (i + 1))) := Lib.hid (by rw [HDF.out, HREST.out, dif_same (key_eq15 q1) (key_eq15 q2)])
                  go_wp2_with fail
                  go_roundw
                  case rel => exact ⟨i + 1, F, a', I1, n0 - 1, c0 - 1, A5, f5, c5, by omega, by simp [hq], rfl, rfl, HDN, HRT, HFL, PA4, CO4, T4.out⟩
                  case measure => simp [intOf, hq]; omega
                · have HDN : Hid (D = F ++ dif a' (⟨pk, pv⟩ :: rest)) := Lib.hid (by rw [HDF.out, dif_turned HRI.out.1 (key_eq15 q1) q2])
                  go_wp2_with fail
                  go_roundw
                  case rel => exact ⟨F, a', I1, n0 - 1, c0 - 1, A5, f5, c5, rfl, rfl, HDN, HRT, HFL, PA4, CO4, PB4.out, T4.out⟩
                  case measure => first | omega | (simp; omega)
                · have HDN : Hid (D = (F ++ [delC ⟨xk, xv⟩]) ++ dif a' (⟨pk, pv⟩ :: rest)) := Lib.hid (by
                    have hl : lt14 xk pk = true := by unfold lt14; rw [← ByteArray.toList_eq, ← ByteArray.toList_eq]; exact q3
                    rw [HDF.out, dif_cons, hl]
                    simp)
                  go_wp2_with (at_builtin; refine wpList_app1c rfl _ _ rfl w.heap.size (.slice A5 f5 c5) F f5 W4.heap.size (delC ⟨xk, xv⟩) rfl HFL.out (CO4.out.still ((Turn.refl _ _).alloc _)) rfl (Blk.new W4 95 [.string xk, .string ⟨#[]⟩, .bool true]) (by have := HFB.out; omega) (by rw [World.size_alloc]; have := T4.out.size; omega) ?_; intro A7 c7 w7 ho7 ht7; have O7 := Lib.hid ho7; have T7 := Lib.hid ((T4.out.alloc (.cells #[.string xk, .string ⟨#[]⟩, .bool true] 95)).trans_new ht7 (fun k hk h => by have := (own_ge9 CO4.out k h).1; omega)); have Q7 := Lib.hid ((PB4.out.alloc (.cells #[.string xk, .string ⟨#[]⟩, .bool true] 95)).turn ht7 (fun e => own_ty15b CO4.out PB4.out (by decide) _ e rfl)); clear ho7 ht7)
                  go_roundw
                  case rel => exact ⟨F ++ [delC ⟨xk, xv⟩], a', I1, n0 - 1, c0 - 1, A7, f5 + 1, c7, rfl, rfl, HDN, HRT, Lib.hid (by rw [List.length_append, HFL.out]; rfl), PA4, O7, Q7.out, T7.out⟩
                  case measure => first | omega | (simp; omega)
        · obtain rfl : i = n := by omega
          have HD3 : Hid (D = F ++ Aa.map delC) := Lib.hid (by rw [HDF.out, ← HN.out, List.drop_length, dif_nil2])
          have HPX := Lib.hid HPA.out.1
          have hl0 := HPA.out.len
          have HFB : Hid (f5 + n0 ≤ 4000) := Lib.hid (by have h1 := HDL.out; rw [HD3.out, List.length_append, List.length_map, HFL.out, hl0] at h1; have := HLN.out; omega)
          have HN0 := Lib.hid hl0
          have hn0 : n0 ≤ 4000 := by have := HFB.out; omega
          clear ht hl0
          go_wp2_with fail
          go_loopw [5, 10, 67] (fun v5 _ v67 wr => ∃ (j : Nat) (G : List Cg) (A6 : Option Addr) (c6 : Nat), j ≤ n0 ∧ v67 = .int .i64 j ∧ v5 = .slice A6 (f5 + j) c6 ∧ Hid (G = F ++ (Aa.take j).map delC) ∧ Hid (G.length = f5 + j) ∧ Hid (Co w.heap.size wr (.slice A6 (f5 + j) c6) G) ∧ Turn (fun _ => False) w wr) (fun _ _ v67 _ => n0 - (intOf v67).toNat)
          case atStart => exact ⟨0, F, A5, c5, Nat.zero_le _, rfl, rfl, Lib.hid (by simp), HFL, HCO, TT.out⟩
          case round =>
            clear TT HCO
            obtain ⟨j, G, A6, c6, hj, rfl, rfl, HG, HGL, HCG, ht⟩ := hrel
            obtain ⟨wy, rfl⟩ : ∃ W, W = wr := ⟨_, rfl⟩
            have TY := Lib.hid ht
            by_cases hlt2 : j < n0
            · have hl1 : (j : Int) < (n0 : Int) := by omega
              have hl0 : (0 : Int) ≤ (j : Int) := by omega
              have hq := wrap_of ((j : Int) + 1) (by omega) (by omega)
              obtain ⟨x, hx⟩ : ∃ x, Aa[j]? = some x := ⟨_, List.getElem?_eq_getElem (by rw [HN0.out]; exact hlt2)⟩
              have HGN : Hid (G ++ [delC x] = F ++ (Aa.take (j + 1)).map delC) := Lib.hid (by rw [take_next hx, List.map_append, HG.out]; simp)
              obtain ⟨A', c', e, _, hr⟩ := HPX.out
              injection e with e1 e2 e3
              subst e1
              obtain ⟨b, o, rfl, _, hc⟩ := hr.pair (by rw [HN0.out]; omega)
              obtain ⟨g0, g1⟩ := hc wy ht j x hx
              obtain ⟨xk, xv⟩ := x
              simp only at g0 g1
              obtain ⟨W4, hW4⟩ : ∃ W, wy.alloc (.cells #[.string xk, .string xv] 61) = W := ⟨_, rfl⟩
              have T4 : Hid (Turn (fun _ => False) w W4) := Lib.hid (hW4 ▸ ht.alloc _)
              have XB4 : Hid (Blk W4 wy.heap.size 61 [.string xk, .string xv]) := Lib.hid (hW4 ▸ Blk.new _ _ _)
              have CO4 : Hid (Co w.heap.size W4 (.slice A6 (f5 + j) c6) G) := Lib.hid (hW4 ▸ HCG.out.still ((Turn.refl _ _).alloc _))
              obtain ⟨e0, e1⟩ := cells2b XB4.out
              clear hx hr hc e2 e3 ht
              go_upto_region 18 with fail
              clear hW4
              go_wp2_with (at_builtin; refine wpList_app1c rfl _ _ rfl w.heap.size (.slice A6 (f5 + j) c6) G (f5 + j) W4.heap.size (delC ⟨xk, xv⟩) rfl HGL.out (CO4.out.still ((Turn.refl _ _).alloc _)) rfl (Blk.new W4 95 [.string xk, .string ⟨#[]⟩, .bool true]) (by have := HFB.out; omega) (by rw [World.size_alloc]; have := T4.out.size; omega) ?_; intro A7 c7 w7 ho7 ht7; have O7 := Lib.hid ho7; have T7 := Lib.hid ((T4.out.alloc (.cells #[.string xk, .string ⟨#[]⟩, .bool true] 95)).trans_new ht7 (fun k hk h => by have := (own_ge9 CO4.out k h).1; omega)); clear ho7 ht7)
              go_roundw
              case rel => exact ⟨j + 1, G ++ [delC ⟨xk, xv⟩], A7, c7, by omega, by simp [hq], by first | rfl | (rw [Nat.add_assoc]), HGN, Lib.hid (by rw [List.length_append, HGL.out]; rfl), O7, T7.out⟩
              case measure => simp [intOf, hq]; omega
            · obtain rfl : j = n0 := by omega
              have HALL : Hid (D = G) := Lib.hid (by rw [HD3.out, HG.out, ← HN0.out, List.take_length])
              go_wp2_with fail
              try simp only [Exit.noGoto_ret]
              go_ret
              exact ⟨_, _, _, rfl, by rw [HALL.out]; exact HCG.out, TY.out⟩
end Go.Proofs.Ytobddfpdijmgiaa
