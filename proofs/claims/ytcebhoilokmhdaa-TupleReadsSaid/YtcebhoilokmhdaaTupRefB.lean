/- Layer 2: the document's answer: Below, ahead, Compare. -/
import Derived.Test.YtcebhoilokmhdaaTupRefA
import Derived.Test.YtcebhoilokmhdaaTupleRangesW
namespace Go.Proofs.Ytcebhoilokmhdaa
open Go.RowKit
set_option linter.unusedVariables false

theorem drop_cons (s : ByteArray) (j : Nat) (h : j < s.size) : s.data.toList.drop j = s[j] :: s.data.toList.drop (j + 1) := by
  rw [List.drop_eq_getElem_cons (by simpa using h)]; rfl
theorem bl_nil_right (x : List UInt8) : Op.bytesLess x [] = false := by cases x <;> rfl
theorem bl_nil_left (x : List UInt8) : Op.bytesLess [] x = decide (0 < x.length) := by cases x <;> rfl
theorem bl_ne_head {a b : UInt8} (h : a ≠ b) (x y : List UInt8) : Op.bytesLess (a :: x) (b :: y) = decide (a.toNat < b.toNat) := by
  rw [bl_cons]
  have : (a == b) = false := by simpa using h
  rw [this, Bool.false_and, Bool.or_false, decide_eq_decide, UInt8.lt_iff_toNat_lt]

set_option maxRecDepth 100000 in
set_option maxHeartbeats 1000000 in
theorem below_any (s t : ByteArray) (hs : s.size ≤ 140737488351232) (ht : t.size ≤ 140737488351232) (w : World) :
    Calls Try.prog 103 #[.string s, .string t] w fun e w' => e = .returned (.bool (Op.bytesLess s.data.toList t.data.toList)) ∧ Below w.heap.size w w' := by
  go_enter Try.func103, Try.ntmps103
  go_wp2
  go_loopw [5] (fun i wr => ∃ j : Nat, j ≤ s.size ∧ j ≤ t.size ∧ i = .int .i64 j ∧ Op.bytesLess s.data.toList t.data.toList = Op.bytesLess (s.data.toList.drop j) (t.data.toList.drop j) ∧ Below w.heap.size w wr) (fun i _ => s.size - (intOf i).toNat)
  case atStart => exact ⟨0, Nat.zero_le _, Nat.zero_le _, rfl, rfl, Below.refl _ _⟩
  case round =>
    obtain ⟨j, hj, hj2, rfl, hc, hb⟩ := hrel
    have HC := Lib.hid hc
    clear hc
    by_cases h1 : j < s.size
    · by_cases h2 : j < t.size
      · have HD1 := Lib.hid (drop_cons s j h1)
        have HD2 := Lib.hid (drop_cons t j h2)
        have hj0 : (0 : Int) ≤ j := by omega
        have hi1 : (j : Int) < s.size := by omega
        have hi2 : (j : Int) < t.size := by omega
        by_cases he : s[j] = t[j]
        · have HE := Lib.hid he
          have hq : ((s[j].toNat : Int) == t[j].toNat) = true := by rw [he]; simp
          have hq2 : ((s[j].toNat : Int) != t[j].toNat) = false := by rw [he]; simp
          clear he
          go_wp2
          go_quiet (fail)
          go_wp2
          go_roundw
          case rel => exact ⟨j + 1, by omega, by omega, by go_num, by rw [HC.out, HD1.out, HD2.out, HE.out, bl_same], bdrewN hb⟩
          case measure => simp [intOf]; omega
        · have HE := Lib.hid he
          have hn : s[j].toNat ≠ t[j].toNat := fun e => he (UInt8.toNat_inj.1 e)
          have hq : ((s[j].toNat : Int) == t[j].toNat) = false := by simp; omega
          have hq2 : ((s[j].toNat : Int) != t[j].toNat) = true := by simp; omega
          clear he hn
          go_wp2
          go_quiet (fail)
          go_wp2
          go_quiet (fail)
          go_wp2
          go_ret
          rw [HC.out, HD1.out, HD2.out, bl_ne_head HE.out]
          exact ⟨rfl, by first | exact bdrewN hb | exact bdrewN (bdrewN hb)⟩
      · have HN := Lib.hid (show Op.bytesLess (s.data.toList.drop j) (t.data.toList.drop j) = false from by rw [show t.data.toList.drop j = [] from List.drop_eq_nil_of_le (by simp; omega), bl_nil_right])
        have hx : ¬ (s.size : Int) < t.size := by omega
        have hi1 : (j : Int) < s.size := by omega
        have hi2 : ¬ (j : Int) < t.size := by omega
        clear h1 h2
        go_wp2
        go_ret
        rw [HC.out, HN.out]
        exact ⟨rfl, hb⟩
    · obtain rfl : j = s.size := by omega
      have HN := Lib.hid (show Op.bytesLess (s.data.toList.drop s.size) (t.data.toList.drop s.size) = decide (s.size < t.size) from by
        rw [show s.data.toList.drop s.size = [] from List.drop_eq_nil_of_le (by simp), bl_nil_left, decide_eq_decide, List.length_drop, len_ba]; omega)
      go_wp2
      go_ret
      rw [HC.out, HN.out]
      exact ⟨rfl, hb⟩

/-- Does a part stand ahead of another one? -/
def ahB (p q : Pt) : Bool := if p.k = q.k then (if p.k = 2 then decide (p.n < q.n) else if p.k = 3 then decide (q.n < p.n) else Op.bytesLess p.s.data.toList q.s.data.toList) else decide (p.k < q.k)
set_option maxHeartbeats 400000 in
theorem ahead_any (p q : Pt) (hs : p.s.size ≤ 140737488351232) (ht : q.s.size ≤ 140737488351232) (w : World) :
    Calls Try.prog 76 #[.agg #[.int .i64 p.k, .int .i64 p.n, .string p.s], .agg #[.int .i64 q.k, .int .i64 q.n, .string q.s]] w fun e w' => e = .returned (.bool (ahB p q)) ∧ Below w.heap.size w w' := by
  obtain ⟨k, n, s⟩ := p
  obtain ⟨k', n', t⟩ := q
  simp only at hs ht ⊢
  by_cases hk : k = k'
  · subst hk
    by_cases h2 : k = 2
    · subst h2
      have HA := Lib.hid (show ahB ⟨2, n, s⟩ ⟨2, n', t⟩ = decide (n < n') from rfl)
      go_enter Try.func76, Try.ntmps76
      go_wp2
      go_ret
      rw [HA.out]
      exact ⟨rfl, ((Below.refl _ _).alloc (Nat.le_refl _) _).alloc (by simp) _⟩
    · by_cases h3 : k = 3
      · subst h3
        have HA := Lib.hid (show ahB ⟨3, n, s⟩ ⟨3, n', t⟩ = decide (n' < n) from rfl)
        go_enter Try.func76, Try.ntmps76
        go_wp2
        go_ret
        rw [HA.out]
        exact ⟨rfl, ((Below.refl _ _).alloc (Nat.le_refl _) _).alloc (by simp) _⟩
      · have HA := Lib.hid (show ahB ⟨k, n, s⟩ ⟨k, n', t⟩ = Op.bytesLess s.data.toList t.data.toList from by unfold ahB; simp only; rw [if_pos trivial, if_neg h2, if_neg h3])
        have h2' : (k == 2) = false := by simpa using h2
        have h3' : (k == 3) = false := by simpa using h3
        clear h2 h3
        go_enter Try.func76, Try.ntmps76
        go_wp2_with (go_at_call 103; refine (below_any s t hs ht _).mono ?_; rintro e w1 ⟨rfl, hb1⟩; rw [← HA.out])
        go_ret
        exact ⟨rfl, (((Below.refl _ _).alloc (Nat.le_refl _) _).alloc (by simp) _).trans (hb1.mono (by simp; omega))⟩
  · have HA := Lib.hid (show ahB ⟨k, n, s⟩ ⟨k', n', t⟩ = decide (k < k') from by unfold ahB; simp only; rw [if_neg hk])
    have hq : (k == k') = false := by simpa using hk
    have hq2 : (k != k') = true := by simpa using hk
    clear hk
    go_enter Try.func76, Try.ntmps76
    go_wp2
    go_ret
    rw [HA.out]
    exact ⟨rfl, ((Below.refl _ _).alloc (Nat.le_refl _) _).alloc (by simp) _⟩
theorem ah_cp (p q : Pt) (hp : rgt p) (hq : rgt q) : (cp p q = -1 ∧ ahB p q = true) ∨ (cp p q = 0 ∧ ahB p q = false ∧ ahB q p = false) ∨ (cp p q = 1 ∧ ahB p q = false ∧ ahB q p = true) := by
  obtain ⟨k, n, s⟩ := p
  obtain ⟨k', n', t⟩ := q
  obtain ⟨hp, hp0, hp1⟩ := hp
  obtain ⟨hq, hq0, hq1⟩ := hq
  simp only at *
  unfold cp ahB
  simp only
  rcases ci_cases k k' with ⟨e, h⟩ | ⟨e, rfl⟩ | ⟨e, h⟩
  · rw [e, or3_l (by decide), if_neg (by omega), decide_eq_true h]; exact .inl ⟨rfl, rfl⟩
  · rw [e]
    simp only [if_true]
    rcases prt_cases hp with ⟨rfl, rfl⟩ | ⟨rfl, h1⟩ | ⟨rfl, h1⟩
    · obtain rfl : n' = 0 := by rcases prt_cases hq with h | h | h <;> omega
      have e2 : ci (tn 1 0) (tn 1 0) = 0 := by decide
      rw [e2]
      simp only [show ¬ ((1 : Int) = 2) from by decide, show ¬ ((1 : Int) = 3) from by decide, if_false]
      rcases cs_cases s t with ⟨e1, h⟩ | ⟨e1, rfl⟩ | ⟨e1, h⟩
      · rw [e1, or3_m (by decide)]; exact .inl ⟨rfl, h⟩
      · rw [e1]; exact .inr (.inl ⟨rfl, bl_irrefl _, bl_irrefl _⟩)
      · rw [e1, or3_m (by decide)]; exact .inr (.inr ⟨rfl, bl_asymm h, h⟩)
    all_goals
      have h2 : t.size = 0 := by rcases prt_cases hq with h | h | h <;> omega
      obtain rfl := empty_of h1
      obtain rfl := empty_of h2
      rw [cs_empty, or3_r]
    · simp only [if_true]
      rcases ci_cases (tn 2 n) (tn 2 n') with ⟨e1, h⟩ | ⟨e1, h⟩ | ⟨e1, h⟩
      all_goals rw [e1]; unfold tn at h; simp only [show ¬ ((2 : Int) = 3) from by decide, if_false] at h
      · exact .inl ⟨rfl, by simp; omega⟩
      · exact .inr (.inl ⟨rfl, by simp; omega, by simp; omega⟩)
      · exact .inr (.inr ⟨rfl, by simp; omega, by simp; omega⟩)
    · simp only [show ¬ ((3 : Int) = 2) from by decide, if_false, if_true]
      rcases ci_cases (tn 3 n) (tn 3 n') with ⟨e1, h⟩ | ⟨e1, h⟩ | ⟨e1, h⟩
      all_goals rw [e1]; unfold tn at h; simp only [if_true] at h
      · exact .inl ⟨rfl, by simp; omega⟩
      · exact .inr (.inl ⟨rfl, by simp; omega, by simp; omega⟩)
      · exact .inr (.inr ⟨rfl, by simp; omega, by simp; omega⟩)
  · rw [e, or3_l (by decide), if_neg (by omega), decide_eq_false (by omega), if_neg (by omega), decide_eq_true h]; exact .inr (.inr ⟨rfl, rfl, rfl⟩)
end Go.Proofs.Ytcebhoilokmhdaa
