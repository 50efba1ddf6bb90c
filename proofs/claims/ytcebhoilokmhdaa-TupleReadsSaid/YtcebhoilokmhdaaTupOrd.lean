/- Layer 2, plain facts: the bytes of keys stand as the keys do. -/
import Derived.Test.YtcebhoilokmhdaaTupF
namespace Go.Proofs.Ytcebhoilokmhdaa
open Go.RowKit

theorem bl_cons (a b : UInt8) (x y : List UInt8) : Op.bytesLess (a :: x) (b :: y) = (decide (a < b) || (a == b && Op.bytesLess x y)) := rfl
theorem bl_lt {a b : UInt8} (h : a < b) (x y : List UInt8) : Op.bytesLess (a :: x) (b :: y) = true := by rw [bl_cons, decide_eq_true h]; rfl
theorem bl_same (a : UInt8) (x y : List UInt8) : Op.bytesLess (a :: x) (a :: y) = Op.bytesLess x y := by
  rw [bl_cons, decide_eq_false (by rw [UInt8.lt_iff_toNat_lt]; omega)]; simp
theorem bl_app (u x y : List UInt8) : Op.bytesLess (u ++ x) (u ++ y) = Op.bytesLess x y := by
  induction u with
  | nil => rfl
  | cons c u ih => simp only [List.cons_append, bl_same, ih]
theorem bl_irrefl (x : List UInt8) : Op.bytesLess x x = false := by
  induction x with
  | nil => rfl
  | cons c x ih => rw [bl_same, ih]
theorem bl_cases (x y : List UInt8) : Op.bytesLess x y = true ∨ x = y ∨ Op.bytesLess y x = true := by
  induction x generalizing y with
  | nil => cases y with
    | nil => exact .inr (.inl rfl)
    | cons _ _ => exact .inl rfl
  | cons a x ih => cases y with
    | nil => exact .inr (.inr rfl)
    | cons b y =>
      rcases Nat.lt_trichotomy a.toNat b.toNat with h | h | h
      · exact .inl (bl_lt (UInt8.lt_iff_toNat_lt.2 h) _ _)
      · obtain rfl : a = b := UInt8.toNat_inj.1 h
        rw [bl_same, bl_same]
        rcases ih y with h | h | h
        · exact .inl h
        · exact .inr (.inl (by rw [h]))
        · exact .inr (.inr h)
      · exact .inr (.inr (bl_lt (UInt8.lt_iff_toNat_lt.2 h) _ _))
theorem bl_asymm {x : List UInt8} : ∀ {y : List UInt8}, Op.bytesLess x y = true → Op.bytesLess y x = false := by
  induction x with
  | nil => intro y h; cases y with
    | nil => rfl
    | cons _ _ => rfl
  | cons a x ih => intro y h; cases y with
    | nil => cases h
    | cons b y =>
      rcases Nat.lt_trichotomy a.toNat b.toNat with h1 | h1 | h1
      · rw [bl_cons, decide_eq_false (by rw [UInt8.lt_iff_toNat_lt]; omega)]
        have : (b == a) = false := by simp; intro e; subst e; omega
        rw [this]; rfl
      · obtain rfl : a = b := UInt8.toNat_inj.1 h1
        rw [bl_same] at h ⊢
        exact ih h
      · rw [bl_cons, decide_eq_false (by rw [UInt8.lt_iff_toNat_lt]; omega)] at h
        have : (a == b) = false := by simp; intro e; subst e; omega
        rw [this] at h; cases h
theorem bl_ne {x y : List UInt8} (h : Op.bytesLess x y = true) : x ≠ y := by
  rintro rfl; rw [bl_irrefl] at h; cases h
theorem bl_len {u : List UInt8} : ∀ {v : List UInt8}, u.length = v.length → Op.bytesLess u v = true → ∀ x y, Op.bytesLess (u ++ x) (v ++ y) = true := by
  induction u with
  | nil => intro v hl h x y; cases v with
    | nil => cases h
    | cons _ _ => cases hl
  | cons a u ih => intro v hl h x y; cases v with
    | nil => cases hl
    | cons b v =>
      simp only [List.cons_append]
      rcases Nat.lt_trichotomy a.toNat b.toNat with h1 | h1 | h1
      · exact bl_lt (UInt8.lt_iff_toNat_lt.2 h1) _ _
      · obtain rfl : a = b := UInt8.toNat_inj.1 h1
        rw [bl_same] at h ⊢
        exact ih (by simpa using hl) h x y
      · rw [bl_cons, decide_eq_false (by rw [UInt8.lt_iff_toNat_lt]; omega)] at h
        have : (a == b) = false := by simp; intro e; subst e; omega
        rw [this] at h; cases h

theorem pos_of_ne {c : UInt8} (h : c ≠ 0) : 0 < c := by
  rw [UInt8.lt_iff_toNat_lt]
  have : c.toNat ≠ 0 := fun e => h (UInt8.toNat_inj.1 (by simpa using e))
  simpa using Nat.pos_of_ne_zero this
theorem esc_less {s : List UInt8} : ∀ {t : List UInt8}, Op.bytesLess s t = true → ∀ x y, Op.bytesLess (esc s ++ ([0, 1] ++ x)) (esc t ++ ([0, 1] ++ y)) = true := by
  induction s with
  | nil => intro t h x y; cases t with
    | nil => cases h
    | cons c t =>
      unfold esc
      by_cases hc : c = 0
      · subst hc
        rw [if_pos rfl]
        show Op.bytesLess (0 :: 1 :: x) (0 :: 255 :: _) = true
        rw [bl_same]
        exact bl_lt (by decide) _ _
      · rw [if_neg hc]
        exact bl_lt (pos_of_ne hc) _ _
  | cons a s ih => intro t h x y; cases t with
    | nil => cases h
    | cons b t =>
      rcases Nat.lt_trichotomy a.toNat b.toNat with h1 | h1 | h1
      · have hb : b ≠ 0 := by rintro rfl; simp at h1
        unfold esc
        rw [if_neg hb]
        by_cases ha : a = 0
        · subst ha
          rw [if_pos rfl]
          exact bl_lt (pos_of_ne hb) _ _
        · rw [if_neg ha]
          exact bl_lt (UInt8.lt_iff_toNat_lt.2 h1) _ _
      · obtain rfl : a = b := UInt8.toNat_inj.1 h1
        rw [bl_same] at h
        unfold esc
        rw [List.append_assoc, List.append_assoc, bl_app]
        exact ih h x y
      · rw [bl_cons, decide_eq_false (by rw [UInt8.lt_iff_toNat_lt]; omega)] at h
        have : (a == b) = false := by simp; intro e; subst e; omega
        rw [this] at h; cases h

/-- A part that is right, of a number that a machine has. -/
def rgt (p : Pt) : Prop := prt p.k p.n p.s = true ∧ -9223372036854775808 ≤ p.n ∧ p.n ≤ 9223372036854775807
theorem empty_of {s : ByteArray} (h : s.size = 0) : s = ⟨#[]⟩ := by
  apply ByteArray.ext
  apply Array.eq_empty_of_size_eq_zero
  exact h
theorem cs_empty : cs ⟨#[]⟩ ⟨#[]⟩ = 0 := by
  unfold cs; simp only [ByteArray.toList_eq]; decide
theorem cs_cases (x y : ByteArray) : (cs x y = -1 ∧ Op.bytesLess x.data.toList y.data.toList = true) ∨ (cs x y = 0 ∧ x = y) ∨ (cs x y = 1 ∧ Op.bytesLess y.data.toList x.data.toList = true) := by
  unfold cs
  simp only [ByteArray.toList_eq]
  by_cases h1 : Op.bytesLess x.data.toList y.data.toList = true
  · exact .inl ⟨if_pos h1, h1⟩
  · rw [if_neg h1]
    by_cases h2 : (x.data.toList == y.data.toList) = true
    · refine .inr (.inl ⟨if_pos h2, ?_⟩)
      have : x.data.toList = y.data.toList := by simpa using h2
      apply ByteArray.ext
      exact Array.toList_inj.1 this
    · rw [if_neg h2]
      refine .inr (.inr ⟨rfl, ?_⟩)
      rcases bl_cases x.data.toList y.data.toList with h | h | h
      · exact absurd h h1
      · exact absurd (by simpa using h) h2
      · exact h
theorem ci_cases (x y : Int) : (ci x y = -1 ∧ x < y) ∨ (ci x y = 0 ∧ x = y) ∨ (ci x y = 1 ∧ y < x) := by
  unfold ci; split
  · exact .inl ⟨rfl, by assumption⟩
  · split
    · exact .inr (.inr ⟨rfl, by assumption⟩)
    · exact .inr (.inl ⟨rfl, by omega⟩)
theorem tn_inj {k a b : Int} (h : tn k a = tn k b) : a = b := by unfold tn at h; split at h <;> omega

theorem or3_l {a : Int} (h : a ≠ 0) (b c : Int) : or3 a b c = a := if_pos h
theorem or3_m {b : Int} (h : b ≠ 0) (c : Int) : or3 0 b c = b := by unfold or3; rw [if_neg (by simp), if_pos h]
theorem or3_r (c : Int) : or3 0 0 c = c := rfl

theorem kind_less (k k' : Int) (h : k < k') (hk : k = 1 ∨ k = 2 ∨ k = 3) (hk' : k' = 1 ∨ k' = 2 ∨ k' = 3) (n n' : Int) (s s' : ByteArray) (x y : List UInt8) : Op.bytesLess (pby k n s ++ x) (pby k' n' s' ++ y) = true := by
  have hc : (k = 1 ∧ k' = 2) ∨ (k = 1 ∧ k' = 3) ∨ (k = 2 ∧ k' = 3) := by omega
  rcases hc with ⟨rfl, rfl⟩ | ⟨rfl, rfl⟩ | ⟨rfl, rfl⟩
  · exact bl_lt (a := 2) (b := 3) (by decide) _ _
  · exact bl_lt (a := 2) (b := 4) (by decide) _ _
  · exact bl_lt (a := 3) (b := 4) (by decide) _ _
theorem num_less (k n n' : Int) (hk : k = 2 ∨ k = 3) (s s' : ByteArray) (h : tn k n < tn k n') (h0 : 0 ≤ tn k n) (h1 : tn k n' ≤ 18446744073709551615) (x y : List UInt8) : Op.bytesLess (pby k n s ++ x) (pby k n' s' ++ y) = true := by
  have e : ∀ m s, pby k m s = (if k = 2 then 3 else 4) :: fld 8 (tn k m) := fun m s => by unfold pby; rw [if_neg (by omega)]
  rw [e, e, List.cons_append, List.cons_append, bl_same]
  refine bl_len (by rw [len_fld, len_fld]) ?_ x y
  rw [fld_less 8 _ _ h0 (by simp; omega) (by omega) (by simp; omega), decide_eq_true h]
theorem pby1 (n : Int) (s : ByteArray) : pby 1 n s = 2 :: (esc s.data.toList ++ [0, 1]) := rfl
theorem text_less (n n' : Int) (s s' : ByteArray) (h : Op.bytesLess s.data.toList s'.data.toList = true) (x y : List UInt8) : Op.bytesLess (pby 1 n s ++ x) (pby 1 n' s' ++ y) = true := by
  rw [pby1, pby1, List.cons_append, List.cons_append, bl_same, List.append_assoc, List.append_assoc]
  exact esc_less h x y

/-- How two parts stand, and how their bytes do, whatever stands behind. -/
theorem part_cases (p q : Pt) (hp : rgt p) (hq : rgt q) :
    (cp p q = -1 ∧ ∀ x y, Op.bytesLess (pby p.k p.n p.s ++ x) (pby q.k q.n q.s ++ y) = true) ∨ (cp p q = 0 ∧ p = q) ∨
    (cp p q = 1 ∧ ∀ x y, Op.bytesLess (pby q.k q.n q.s ++ y) (pby p.k p.n p.s ++ x) = true) := by
  obtain ⟨k, n, s⟩ := p
  obtain ⟨k', n', s'⟩ := q
  obtain ⟨hp, hp0, hp1⟩ := hp
  obtain ⟨hq, hq0, hq1⟩ := hq
  simp only at *
  have hk : k = 1 ∨ k = 2 ∨ k = 3 := by rcases prt_cases hp with h | h | h <;> omega
  have hk' : k' = 1 ∨ k' = 2 ∨ k' = 3 := by rcases prt_cases hq with h | h | h <;> omega
  unfold cp
  simp only
  rcases ci_cases k k' with ⟨e, h⟩ | ⟨e, rfl⟩ | ⟨e, h⟩
  · rw [e, or3_l (by decide)]
    exact .inl ⟨rfl, kind_less k k' h hk hk' n n' s s'⟩
  · rw [e]
    rcases prt_cases hp with ⟨rfl, rfl⟩ | ⟨rfl, hs⟩ | ⟨rfl, hs⟩
    · obtain rfl : n' = 0 := by rcases prt_cases hq with h | h | h <;> omega
      have e2 : ci (tn 1 0) (tn 1 0) = 0 := by decide
      rw [e2]
      rcases cs_cases s s' with ⟨e1, h⟩ | ⟨e1, rfl⟩ | ⟨e1, h⟩
      · rw [e1, or3_m (by decide)]
        exact .inl ⟨rfl, text_less 0 0 s s' h⟩
      · rw [e1]; exact .inr (.inl ⟨rfl, rfl⟩)
      · rw [e1, or3_m (by decide)]
        exact .inr (.inr ⟨rfl, fun x y => text_less 0 0 s' s h y x⟩)
    all_goals
      have hs' : s'.size = 0 := by rcases prt_cases hq with h | h | h <;> omega
      obtain rfl := empty_of hs
      obtain rfl := empty_of hs'
      rw [cs_empty, or3_r]
    · have t1 := tn_range (k := 2) hp0 hp1
      have t2 := tn_range (k := 2) hq0 hq1
      rcases ci_cases (tn 2 n) (tn 2 n') with ⟨e1, h⟩ | ⟨e1, h⟩ | ⟨e1, h⟩
      · rw [e1]; exact .inl ⟨rfl, num_less 2 n n' (.inl rfl) _ _ h t1.1 t2.2⟩
      · obtain rfl := tn_inj h
        rw [e1]; exact .inr (.inl ⟨rfl, rfl⟩)
      · rw [e1]; exact .inr (.inr ⟨rfl, fun x y => num_less 2 n' n (.inl rfl) _ _ h t2.1 t1.2 y x⟩)
    · have t1 := tn_range (k := 3) hp0 hp1
      have t2 := tn_range (k := 3) hq0 hq1
      rcases ci_cases (tn 3 n) (tn 3 n') with ⟨e1, h⟩ | ⟨e1, h⟩ | ⟨e1, h⟩
      · rw [e1]; exact .inl ⟨rfl, num_less 3 n n' (.inr rfl) _ _ h t1.1 t2.2⟩
      · obtain rfl := tn_inj h
        rw [e1]; exact .inr (.inl ⟨rfl, rfl⟩)
      · rw [e1]; exact .inr (.inr ⟨rfl, fun x y => num_less 3 n' n (.inr rfl) _ _ h t2.1 t1.2 y x⟩)
  · rw [e, or3_l (by decide)]
    exact .inr (.inr ⟨rfl, fun x y => kind_less k' k h hk' hk n' n s' s y x⟩)

theorem kby_ne (p : Pt) (l : List Pt) : ∃ c x, kby (p :: l) = c :: x ∧ c < 255 := by
  unfold kby pby
  split
  · exact ⟨2, _, rfl, by decide⟩
  · split
    · exact ⟨3, _, rfl, by decide⟩
    · exact ⟨4, _, rfl, by decide⟩
/-- How two keys stand, and how their bytes do. -/
theorem key_cases (a : List Pt) : ∀ (b : List Pt), (∀ p ∈ a, rgt p) → (∀ p ∈ b, rgt p) →
    (cmpL a b = -1 ∧ Op.bytesLess (kby a) (kby b) = true) ∨ (cmpL a b = 0 ∧ a = b) ∨ (cmpL a b = 1 ∧ Op.bytesLess (kby b) (kby a) = true) := by
  induction a with
  | nil =>
    intro b _ _
    cases b with
    | nil => exact .inr (.inl ⟨rfl, rfl⟩)
    | cons q b => obtain ⟨c, x, e, _⟩ := kby_ne q b; rw [e]; exact .inl ⟨rfl, rfl⟩
  | cons p a ih =>
    intro b ha hb
    cases b with
    | nil => obtain ⟨c, x, e, _⟩ := kby_ne p a; rw [e]; exact .inr (.inr ⟨rfl, rfl⟩)
    | cons q b =>
      have e : cmpL (p :: a) (q :: b) = if cp p q = 0 then cmpL a b else cp p q := rfl
      rw [e]
      unfold kby
      rcases part_cases p q (ha p (by simp)) (hb q (by simp)) with ⟨e1, h⟩ | ⟨e1, rfl⟩ | ⟨e1, h⟩
      · rw [e1, if_neg (by decide)]; exact .inl ⟨rfl, h _ _⟩
      · rw [e1, if_pos rfl, bl_app, bl_app]
        rcases ih b (fun r hr => ha r (by simp [hr])) (fun r hr => hb r (by simp [hr])) with h | ⟨h, rfl⟩ | h
        · exact .inl h
        · exact .inr (.inl ⟨h, rfl⟩)
        · exact .inr (.inr h)
      · rw [e1, if_neg (by decide)]; exact .inr (.inr ⟨rfl, h _ _⟩)

/-- Does a key begin another one? -/
def isPre : List Pt → List Pt → Prop
  | [], _ => True
  | _ :: _, [] => False
  | p :: a, q :: b => p = q ∧ isPre a b
theorem range_cases (a : List Pt) : ∀ (b : List Pt), (∀ p ∈ a, rgt p) → (∀ p ∈ b, rgt p) →
    (isPre a b ∧ Op.bytesLess (kby b) (kby a) = false ∧ Op.bytesLess (kby b) (kby a ++ [255]) = true) ∨ (¬ isPre a b ∧ Op.bytesLess (kby b) (kby a) = true) ∨ (¬ isPre a b ∧ Op.bytesLess (kby b) (kby a) = false ∧ Op.bytesLess (kby b) (kby a ++ [255]) = false) := by
  induction a with
  | nil =>
    intro b _ _
    cases b with
    | nil => exact .inl ⟨trivial, rfl, rfl⟩
    | cons q b => obtain ⟨c, x, e, hc⟩ := kby_ne q b; rw [e]; exact .inl ⟨trivial, rfl, bl_lt hc _ _⟩
  | cons p a ih =>
    intro b ha hb
    cases b with
    | nil => obtain ⟨c, x, e, _⟩ := kby_ne p a; rw [e]; exact .inr (.inl ⟨fun h => h, rfl⟩)
    | cons q b =>
      have e : isPre (p :: a) (q :: b) = (p = q ∧ isPre a b) := rfl
      rw [e]
      unfold kby
      rcases part_cases p q (ha p (by simp)) (hb q (by simp)) with ⟨e1, h⟩ | ⟨e1, rfl⟩ | ⟨e1, h⟩
      · refine .inr (.inr ⟨fun h2 => ?_, bl_asymm (h _ _), by rw [List.append_assoc]; exact bl_asymm (h _ _)⟩)
        have := bl_irrefl (pby p.k p.n p.s ++ [])
        rw [h2.1] at this h
        rw [h] at this; cases this
      · rw [bl_app, List.append_assoc, bl_app]
        rcases ih b (fun r hr => ha r (by simp [hr])) (fun r hr => hb r (by simp [hr])) with h | h | h
        · exact .inl ⟨⟨rfl, h.1⟩, h.2⟩
        · exact .inr (.inl ⟨fun h2 => h.1 h2.2, h.2⟩)
        · exact .inr (.inr ⟨fun h2 => h.1 h2.2, h.2⟩)
      · refine .inr (.inl ⟨fun h2 => ?_, h _ _⟩)
        have := bl_irrefl (pby p.k p.n p.s ++ [])
        rw [h2.1] at this h
        rw [h] at this; cases this
theorem kby_inj {a b : List Pt} (ha : ∀ p ∈ a, rgt p) (hb : ∀ p ∈ b, rgt p) (h : kby a = kby b) : a = b := by
  rcases key_cases a b ha hb with h1 | h1 | h1
  · rw [h, bl_irrefl] at h1; cases h1.2
  · exact h1.2
  · rw [h, bl_irrefl] at h1; cases h1.2
theorem rgt_of {l : List Pt} (h : chk l = 0) (hf : fine l) : ∀ p ∈ l, rgt p := fun p hp => ⟨(chk_ok h).1 p hp, (hf.1 p hp).2.1, (hf.1 p hp).2.2⟩
end Go.Proofs.Ytcebhoilokmhdaa
