/- Layer 2, plain facts: bytes are read as the key. -/
import Derived.Test.YtcebhoilokmhdaaTupOrd
import Derived.Test.YtcebhoilokmhdaaCore
namespace Go.Proofs.Ytcebhoilokmhdaa
open Go.RowKit

/-- The text ahead of its end, and what stands behind. -/
def textEnd : List UInt8 → Option (List UInt8 × List UInt8)
  | [] => none
  | [_] => none
  | c :: d :: l => if c = 0 then (if d = 1 then some ([], l) else if d = 255 then (textEnd l).map (fun x => (0 :: x.1, x.2)) else none) else (textEnd (d :: l)).map (fun x => (c :: x.1, x.2))
/-- The number of a word. -/
def pn (k u : Int) : Int := if k = 3 then 9223372036854775807 - u else u - 9223372036854775808
/-- The number of kind k ahead, and what stands behind. -/
def numEnd (k : Int) (l : List UInt8) : Option (Pt × List UInt8) := if l.length < 8 then none else some (⟨k, pn k (num 8 l 0), ⟨#[]⟩⟩, l.drop 8)
/-- The part ahead, and what stands behind. -/
def firstPart (c : UInt8) (l : List UInt8) : Option (Pt × List UInt8) :=
  if c = 2 then (textEnd l).map (fun x => (⟨1, 0, ⟨x.1.toArray⟩⟩, x.2)) else if c = 3 then numEnd 2 l else if c = 4 then numEnd 3 l else none
def decN : Nat → List UInt8 → Option (List Pt)
  | _, [] => some []
  | 0, _ => none
  | n + 1, c :: l => match firstPart c l with
    | none => none
    | some (p, r) => (decN n r).map (p :: ·)
/-- The key of bytes. -/
def dec (l : List UInt8) : Option (List Pt) := decN l.length l

theorem textEnd_len : ∀ (n : Nat) (l t r : List UInt8), l.length ≤ n → textEnd l = some (t, r) → r.length + 2 ≤ l.length ∧ t.length + r.length + 2 ≤ l.length ∧ l = esc t ++ (0 :: 1 :: r) := by
  intro n
  induction n with
  | zero => intro l t r hl h; obtain rfl := List.eq_nil_of_length_eq_zero (Nat.le_zero.1 hl); cases h
  | succ n ih =>
    intro l t r hl h
    match l, hl, h with
    | [], _, h => cases h
    | [_], _, h => cases h
    | c :: d :: l, hl, h =>
      unfold textEnd at h
      by_cases hc : c = 0
      · rw [if_pos hc] at h
        by_cases hd : d = 1
        · rw [if_pos hd] at h
          cases h
          subst hc hd
          exact ⟨by simp, by simp, rfl⟩
        · rw [if_neg hd] at h
          by_cases hd2 : d = 255
          · rw [if_pos hd2] at h
            cases he : textEnd l with
            | none => rw [he] at h; cases h
            | some x =>
              rw [he] at h
              cases h
              obtain ⟨h1, h2, h3⟩ := ih l x.1 x.2 (by simp at hl; omega) he
              subst hc hd2
              refine ⟨by simp; omega, by simp; omega, ?_⟩
              show _ = (if (0 : UInt8) = 0 then [0, 255] else [0]) ++ esc x.1 ++ _
              rw [if_pos rfl, List.append_assoc, ← h3]; rfl
          · rw [if_neg hd2] at h; cases h
      · rw [if_neg hc] at h
        cases he : textEnd (d :: l) with
        | none => rw [he] at h; cases h
        | some x =>
          rw [he] at h
          cases h
          obtain ⟨h1, h2, h3⟩ := ih (d :: l) x.1 x.2 (by simp at hl ⊢; omega) he
          refine ⟨by simp at h1 ⊢; omega, by simp at h2 ⊢; omega, ?_⟩
          show _ = (if c = 0 then [0, 255] else [c]) ++ esc x.1 ++ _
          rw [if_neg hc, List.append_assoc, ← h3]; rfl
theorem textEnd_esc (t r : List UInt8) : textEnd (esc t ++ (0 :: 1 :: r)) = some (t, r) := by
  induction t with
  | nil => rfl
  | cons c t ih =>
    unfold esc
    by_cases hc : c = 0
    · subst hc
      rw [if_pos rfl]
      show textEnd (0 :: 255 :: (esc t ++ (0 :: 1 :: r))) = _
      unfold textEnd
      rw [if_pos rfl, if_neg (by decide), if_pos rfl, ih]; rfl
    · rw [if_neg hc]
      show textEnd (c :: (esc t ++ (0 :: 1 :: r))) = _
      obtain ⟨d, l, e⟩ : ∃ d l, esc t ++ (0 :: 1 :: r) = d :: l := by
        cases esc t with
        | nil => exact ⟨_, _, rfl⟩
        | cons d l => exact ⟨_, _, rfl⟩
      rw [e] at ih ⊢
      unfold textEnd
      rw [if_neg hc, ih]; rfl
theorem firstPart_len {c : UInt8} {l : List UInt8} {p : Pt} {r : List UInt8} (h : firstPart c l = some (p, r)) : r.length ≤ l.length := by
  unfold firstPart at h
  split at h
  · cases he : textEnd l with
    | none => rw [he] at h; cases h
    | some x => rw [he] at h; cases h; have := (textEnd_len _ l x.1 x.2 (Nat.le_refl _) he).1; omega
  · split at h
    · unfold numEnd at h; split at h
      · cases h
      · cases h; simp
    · split at h
      · unfold numEnd at h; split at h
        · cases h
        · cases h; simp
      · cases h
theorem decN_fuel : ∀ (n m : Nat) (l : List UInt8), l.length ≤ n → l.length ≤ m → decN n l = decN m l := by
  intro n
  induction n with
  | zero =>
    intro m l h1 _
    obtain rfl := List.eq_nil_of_length_eq_zero (Nat.le_zero.1 h1)
    cases m <;> rfl
  | succ n ih =>
    intro m l h1 h2
    cases l with
    | nil => cases m <;> rfl
    | cons c l =>
      cases m with
      | zero => simp at h2
      | succ m =>
        show (match firstPart c l with | none => none | some (p, r) => (decN n r).map (p :: ·)) = (match firstPart c l with | none => none | some (p, r) => (decN m r).map (p :: ·))
        cases he : firstPart c l with
        | none => rfl
        | some x =>
          obtain ⟨p, r⟩ := x
          have := firstPart_len he
          simp only [List.length_cons] at h1 h2
          show (decN n r).map (p :: ·) = (decN m r).map (p :: ·)
          rw [ih m r (by omega) (by omega)]
theorem dec_nil : dec [] = some [] := rfl
theorem dec_cons (c : UInt8) (l : List UInt8) : dec (c :: l) = match firstPart c l with
    | none => none
    | some (p, r) => (dec r).map (p :: ·) := by
  show (match firstPart c l with | none => none | some (p, r) => (decN l.length r).map (p :: ·)) = _
  cases he : firstPart c l with
  | none => rfl
  | some x =>
    obtain ⟨p, r⟩ := x
    have := firstPart_len he
    simp only
    rw [decN_fuel l.length r.length r this (Nat.le_refl _)]; rfl
theorem pn_tn (k n : Int) : pn k (tn k n) = n := by unfold pn tn; split <;> omega
theorem tn_pn (k u : Int) : tn k (pn k u) = u := by unfold pn tn; split <;> omega
theorem nfld_val (l : List UInt8) : nfld l.length (val l) = l := by
  induction l with
  | nil => rfl
  | cons c l ih =>
    have hv : val l < 256 ^ l.length := val_lt l
    have hp : 2 ^ (8 * l.length) = 256 ^ l.length := by rw [Nat.pow_mul]
    show UInt8.ofNat (val (c :: l) / 2 ^ (8 * l.length) % 256) :: nfld l.length (val (c :: l)) = _
    rw [val_cons, ← nfld_mod l.length (8 * l.length) _ (Nat.le_refl _), hp, Nat.mul_comm, Nat.mul_add_mod, Nat.mod_eq_of_lt hv, ih, Nat.mul_add_div (Nat.pow_pos (by decide)), Nat.div_eq_of_lt hv, Nat.add_zero, Nat.mod_eq_of_lt c.toNat_lt]
    simp
theorem fld_num (l : List UInt8) (h : 8 ≤ l.length) : fld 8 (num 8 l 0 : Int) = l.take 8 := by
  rw [fld_nat]
  unfold num
  rw [List.drop_zero]
  have hl : (l.take 8).length = 8 := by rw [List.length_take]; omega
  have := nfld_val (l.take 8)
  rwa [hl] at this
theorem num_fld_head (n : Int) (h0 : 0 ≤ n) (h1 : n ≤ 18446744073709551615) (r : List UInt8) : (num 8 (fld 8 n ++ r) 0 : Int) = n := by
  have := num_fld 8 (by omega) n (fld 8 n ++ r) [] r 0 (by simp) rfl
  rw [this]
  simp only [Int.reducePow]
  omega
theorem num8_lt (l : List UInt8) : (num 8 l 0 : Int) ≤ 18446744073709551615 := by
  have := num_lt 8 l 0
  simp only [Nat.reducePow] at this
  omega
/-- A part's bytes are read as the part. -/
theorem first_pby (p : Pt) (hp : rgt p) (r : List UInt8) : ∃ c l, pby p.k p.n p.s ++ r = c :: l ∧ firstPart c l = some (p, r) := by
  obtain ⟨k, n, s⟩ := p
  obtain ⟨hp, hn0, hn1⟩ := hp
  simp only at hp hn0 hn1 ⊢
  rcases prt_cases hp with ⟨rfl, rfl⟩ | ⟨rfl, hs⟩ | ⟨rfl, hs⟩
  · refine ⟨2, esc s.data.toList ++ [0, 1] ++ r, rfl, ?_⟩
    unfold firstPart
    rw [if_pos rfl, List.append_assoc]
    show (textEnd (esc s.data.toList ++ (0 :: 1 :: r))).map _ = _
    rw [textEnd_esc]; rfl
  all_goals
    obtain rfl := empty_of hs
  · have ht := tn_range (k := 2) hn0 hn1
    refine ⟨3, fld 8 (tn 2 n) ++ r, rfl, ?_⟩
    unfold firstPart
    rw [if_neg (by decide), if_pos rfl]
    unfold numEnd
    rw [if_neg (by simp [len_fld]), num_fld_head _ ht.1 ht.2, pn_tn, List.drop_left' (len_fld _ _)]
  · have ht := tn_range (k := 3) hn0 hn1
    refine ⟨4, fld 8 (tn 3 n) ++ r, rfl, ?_⟩
    unfold firstPart
    rw [if_neg (by decide), if_neg (by decide), if_pos rfl]
    unfold numEnd
    rw [if_neg (by simp [len_fld]), num_fld_head _ ht.1 ht.2, pn_tn, List.drop_left' (len_fld _ _)]
theorem dec_kby (l : List Pt) (h : ∀ p ∈ l, rgt p) : dec (kby l) = some l := by
  induction l with
  | nil => rfl
  | cons p l ih =>
    obtain ⟨c, x, e, hf⟩ := first_pby p (h p (by simp)) (kby l)
    show dec (pby p.k p.n p.s ++ kby l) = _
    rw [e, dec_cons, hf]
    simp only
    rw [ih fun q hq => h q (by simp [hq])]; rfl
theorem first_back {c : UInt8} {l : List UInt8} {p : Pt} {r : List UInt8} (h : firstPart c l = some (p, r)) : c :: l = pby p.k p.n p.s ++ r ∧ rgt p := by
  unfold firstPart at h
  by_cases h2 : c = 2
  · rw [if_pos h2] at h
    cases he : textEnd l with
    | none => rw [he] at h; cases h
    | some x =>
      rw [he] at h
      cases h
      obtain ⟨_, _, e⟩ := textEnd_len _ l x.1 x.2 (Nat.le_refl _) he
      subst h2
      refine ⟨?_, by simp [prt], by simp, by simp⟩
      show _ = 2 :: (esc x.1 ++ [0, 1]) ++ x.2
      rw [List.cons_append, List.append_assoc]
      show 2 :: l = 2 :: (esc x.1 ++ (0 :: 1 :: x.2))
      rw [← e]
  · rw [if_neg h2] at h
    have key : ∀ (k : Int) (b : UInt8), (k = 2 ∧ b = 3 ∨ k = 3 ∧ b = 4) → c = b → numEnd k l = some (p, r) → c :: l = pby p.k p.n p.s ++ r ∧ rgt p := by
      intro k b hk hc hne
      unfold numEnd at hne
      split at hne
      · cases hne
      · rename_i hl
        cases hne
        have hu := num8_lt l
        refine ⟨?_, ?_⟩
        · show c :: l = pby k (pn k (num 8 l 0)) ⟨#[]⟩ ++ l.drop 8
          unfold pby
          rw [if_neg (by omega), tn_pn, fld_num l (by omega), List.cons_append, List.take_append_drop, hc]
          rcases hk with ⟨rfl, rfl⟩ | ⟨rfl, rfl⟩ <;> rfl
        · refine ⟨?_, ?_, ?_⟩
          · show prt k _ _ = true
            unfold prt
            rw [decide_eq_true_eq]
            exact .inr ⟨by omega, rfl⟩
          · show _ ≤ pn k _
            unfold pn; split <;> omega
          · show pn k _ ≤ _
            unfold pn; split <;> omega
    by_cases h3 : c = 3
    · rw [if_pos h3] at h; exact key 2 3 (.inl ⟨rfl, rfl⟩) h3 h
    · rw [if_neg h3] at h
      by_cases h4 : c = 4
      · rw [if_pos h4] at h; exact key 3 4 (.inr ⟨rfl, rfl⟩) h4 h
      · rw [if_neg h4] at h; cases h
theorem dec_back : ∀ (n : Nat) (l : List UInt8) (ps : List Pt), l.length ≤ n → dec l = some ps → kby ps = l ∧ ∀ p ∈ ps, rgt p := by
  intro n
  induction n with
  | zero =>
    intro l ps hl h
    obtain rfl := List.eq_nil_of_length_eq_zero (Nat.le_zero.1 hl)
    cases h; exact ⟨rfl, by simp⟩
  | succ n ih =>
    intro l ps hl h
    cases l with
    | nil => cases h; exact ⟨rfl, by simp⟩
    | cons c l =>
      rw [dec_cons] at h
      cases he : firstPart c l with
      | none => rw [he] at h; cases h
      | some x =>
        obtain ⟨p, r⟩ := x
        rw [he] at h
        simp only at h
        have hlen := firstPart_len he
        cases hr : dec r with
        | none => rw [hr] at h; cases h
        | some qs =>
          rw [hr] at h
          cases h
          obtain ⟨h1, h2⟩ := ih r qs (by simp at hl; omega) hr
          obtain ⟨e, hp⟩ := first_back he
          refine ⟨by rw [e]; show pby p.k p.n p.s ++ kby qs = _; rw [h1], fun q hq => ?_⟩
          rcases List.mem_cons.1 hq with rfl | hq
          · exact hp
          · exact h2 q hq
end Go.Proofs.Ytcebhoilokmhdaa
