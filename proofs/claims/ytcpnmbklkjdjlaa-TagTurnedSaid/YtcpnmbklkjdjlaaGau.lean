/- Whole complex numbers, and what is left of them by a prime: products, powers of 3 + 2i, tags of bytes, tags joined. Plain. -/
import Derived.Test.YtcpnmbklkjdjlaaBase
namespace Go.Proofs.Ytcpnmbklkjdjlaa

def left (n : Int) : Int := n % 1048573
def gm (a b : Int × Int) : Int × Int := (a.1 * b.1 - a.2 * b.2, a.1 * b.2 + a.2 * b.1)
def ga (a b : Int × Int) : Int × Int := (a.1 + b.1, a.2 + b.2)
def gr (a : Int × Int) : Int × Int := (left a.1, left a.2)
def gp : Nat → Int × Int
  | 0 => (1, 0)
  | n + 1 => gm (gp n) (3, 2)

theorem left_lt (n : Int) : 0 ≤ left n ∧ left n < 1048573 := ⟨Int.emod_nonneg _ (by decide), Int.emod_lt_of_pos _ (by decide)⟩
theorem left_of (n : Int) (h0 : 0 ≤ n) (h1 : n < 1048573) : left n = n := Int.emod_eq_of_lt h0 h1
theorem left_left (n : Int) : left (left n) = left n := Int.emod_emod_of_dvd n (Int.dvd_refl _)
theorem left_add (a b : Int) : left (left a + b) = left (a + b) := by unfold left; omega
theorem left_add' (a b : Int) : left (a + left b) = left (a + b) := by unfold left; omega
theorem left_eq {a b : Int} (k : Int) (h : a = b + 1048573 * k) : left a = left b := by unfold left; omega
theorem left_split (a : Int) : ∃ k, left a = a + 1048573 * k := ⟨-(a / 1048573), by unfold left; omega⟩

theorem gr_gr (a : Int × Int) : gr (gr a) = gr a := by unfold gr; simp only [left_left]
theorem gr_ga (a b : Int × Int) : gr (ga (gr a) b) = gr (ga a b) := by unfold gr ga; simp only [left_add]
theorem gr_ga' (a b : Int × Int) : gr (ga a (gr b)) = gr (ga a b) := by unfold gr ga; simp only [left_add']
theorem gm_comm (a b : Int × Int) : gm a b = gm b a := by
  unfold gm
  refine Prod.ext ?_ ?_
  · simp only [Int.mul_comm]
  · simp only [Int.mul_comm, Int.add_comm]
theorem gm_assoc (a b c : Int × Int) : gm (gm a b) c = gm a (gm b c) := by
  unfold gm
  refine Prod.ext ?_ ?_ <;> simp only [Int.sub_mul, Int.mul_sub, Int.mul_add, Int.add_mul, Int.mul_assoc] <;> omega
theorem gm_one (a : Int × Int) : gm a (1, 0) = a := by unfold gm; refine Prod.ext ?_ ?_ <;> simp
theorem gm_ga (a b c : Int × Int) : gm (ga a b) c = ga (gm a c) (gm b c) := by
  unfold gm ga
  refine Prod.ext ?_ ?_ <;> simp only [Int.add_mul] <;> omega
theorem ga_assoc (a b c : Int × Int) : ga (ga a b) c = ga a (ga b c) := by
  unfold ga; refine Prod.ext ?_ ?_ <;> simp only [] <;> omega
theorem gr_gm (a b : Int × Int) : gr (gm (gr a) b) = gr (gm a b) := by
  obtain ⟨k, hk⟩ := left_split a.1
  obtain ⟨m, hm⟩ := left_split a.2
  unfold gr gm
  simp only [hk, hm]
  refine Prod.ext ?_ ?_
  · refine left_eq (k * b.1 - m * b.2) ?_
    simp only [Int.add_mul, Int.mul_sub, Int.mul_assoc]; omega
  · refine left_eq (k * b.2 + m * b.1) ?_
    simp only [Int.add_mul, Int.mul_add, Int.mul_assoc]; omega
theorem gr_gm' (a b : Int × Int) : gr (gm a (gr b)) = gr (gm a b) := by rw [gm_comm, gr_gm, gm_comm]
theorem gp_add (m n : Nat) : gp (m + n) = gm (gp m) (gp n) := by
  induction n with
  | zero => exact (gm_one _).symm
  | succ n ih => show gm (gp (m + n)) (3, 2) = gm (gp m) (gm (gp n) (3, 2)); rw [ih, gm_assoc]
theorem gr_lt (a : Int × Int) : (0 ≤ (gr a).1 ∧ (gr a).1 < 1048573) ∧ 0 ≤ (gr a).2 ∧ (gr a).2 < 1048573 := ⟨left_lt _, left_lt _⟩
theorem gr_zero : gr (gp 0) = (1, 0) := by decide
theorem gr_one : gr (gp 1) = (3, 2) := by decide

/-- What is left of a power. -/
def gq (n : Nat) : Int × Int := gr (gp n)
theorem gq_add (m n : Nat) : gr (gm (gq m) (gq n)) = gq (m + n) := by
  unfold gq; rw [gr_gm, gr_gm', gp_add]
theorem gq_zero : gq 0 = (1, 0) := gr_zero
theorem gq_one : gq 1 = (3, 2) := gr_one
theorem gq_lt (n : Nat) : (0 ≤ (gq n).1 ∧ (gq n).1 < 1048573) ∧ 0 ≤ (gq n).2 ∧ (gq n).2 < 1048573 := gr_lt _
/-- One bit more of the exponent. -/
theorem gq_bit (n i : Nat) (h : n / 2 ^ i % 2 = 1) : gr (gm (gq (n % 2 ^ i)) (gq (2 ^ i))) = gq (n % 2 ^ (i + 1)) := by
  rw [gq_add]
  congr 1
  rw [Nat.mod_pow_succ, h]; omega
theorem gq_nobit (n i : Nat) (h : ¬ n / 2 ^ i % 2 = 1) : gq (n % 2 ^ i) = gq (n % 2 ^ (i + 1)) := by
  congr 1
  rw [Nat.mod_pow_succ, show n / 2 ^ i % 2 = 0 from by omega]; omega
theorem gq_square (i : Nat) : gr (gm (gq (2 ^ i)) (gq (2 ^ i))) = gq (2 ^ (i + 1)) := by
  rw [gq_add, Nat.pow_succ]; congr 1; omega

/-- A tag of bytes: byte by byte. -/
def own (c : UInt8) : Int × Int := ((c.toNat : Int) + 1, 256 - (c.toNat : Int))
def tstep (t : Int × Int) (c : UInt8) : Int × Int := gr (ga (gm t (3, 2)) (own c))
def tagl (l : List UInt8) : Int × Int := l.foldl tstep (0, 0)
theorem tagl_nil : tagl [] = (0, 0) := rfl
theorem tagl_snoc (l : List UInt8) (c : UInt8) : tagl (l ++ [c]) = tstep (tagl l) c := by simp [tagl]
theorem tagl_lt (l : List UInt8) : (0 ≤ (tagl l).1 ∧ (tagl l).1 < 1048573) ∧ 0 ≤ (tagl l).2 ∧ (tagl l).2 < 1048573 := by
  rcases List.eq_nil_or_concat l with rfl | ⟨r, c, rfl⟩
  · rw [tagl_nil]; decide
  · rw [List.concat_eq_append, tagl_snoc]; exact gr_lt _
/-- The same as two steps, the way that the document's answer goes. -/
theorem tstep_two (t : Int × Int) (c : UInt8) : tstep t c = (left (left (3 * t.1 - 2 * t.2) + (c.toNat : Int) + 1), left (left (2 * t.1 + 3 * t.2) + 256 - (c.toNat : Int))) := by
  unfold tstep gr ga gm own left
  refine Prod.ext ?_ ?_ <;> simp only [] <;> omega

/-- Two tags joined. -/
def jn (a b : Int × Int) (n : Nat) : Int × Int := gr (ga (gm a (gp n)) b)
theorem jn_q (a b : Int × Int) (n : Nat) : gr (ga (gm a (gq n)) b) = jn a b n := by
  unfold jn gq; rw [← gr_ga, gr_gm', gr_ga]
theorem jn_q2 (a b : Int × Int) (n : Nat) : gr (ga (gr (gm a (gq n))) b) = jn a b n := by rw [gr_ga, jn_q]
theorem jn_lt (a b : Int × Int) (n : Nat) : (0 ≤ (jn a b n).1 ∧ (jn a b n).1 < 1048573) ∧ 0 ≤ (jn a b n).2 ∧ (jn a b n).2 < 1048573 := gr_lt _
theorem gr_of (a : Int × Int) (h : (0 ≤ a.1 ∧ a.1 < 1048573) ∧ 0 ≤ a.2 ∧ a.2 < 1048573) : gr a = a := Prod.ext (left_of _ h.1.1 h.1.2) (left_of _ h.2.1 h.2.2)
theorem jn_zero (a : Int × Int) (h : (0 ≤ a.1 ∧ a.1 < 1048573) ∧ 0 ≤ a.2 ∧ a.2 < 1048573) : jn a (0, 0) 0 = a := by
  unfold jn
  rw [show gp 0 = (1, 0) from rfl, gm_one, show ga a (0, 0) = a from by unfold ga; simp]
  exact gr_of a h
theorem jn_jn (a b c : Int × Int) (n m : Nat) : jn (jn a b n) c m = jn a (jn b c m) (n + m) := by
  unfold jn
  rw [← gr_ga, gr_gm, gr_ga, gr_ga', gm_ga, gm_assoc, ← gp_add, ga_assoc]
theorem tagl_app (a b : List UInt8) : tagl (a ++ b) = jn (tagl a) (tagl b) b.length := by
  suffices h : ∀ n (b : List UInt8), b.length = n → tagl (a ++ b) = jn (tagl a) (tagl b) b.length from h _ b rfl
  intro n
  induction n with
  | zero =>
    intro b hb
    obtain rfl := List.eq_nil_of_length_eq_zero hb
    rw [List.append_nil, tagl_nil]
    exact (jn_zero _ (tagl_lt a)).symm
  | succ n ih =>
    intro b hb
    rcases List.eq_nil_or_concat b with rfl | ⟨r, c, rfl⟩
    · cases hb
    · rw [List.concat_eq_append] at hb ⊢
      rw [List.length_append] at hb
      rw [← List.append_assoc, tagl_snoc, ih r (by simpa using hb), tagl_snoc, List.length_append]
      show tstep (jn (tagl a) (tagl r) r.length) c = jn (tagl a) (tstep (tagl r) c) (r.length + 1)
      have e : ∀ t : Int × Int, tstep t c = jn t (own c) 1 := fun t => rfl
      rw [e, e, jn_jn]
end Go.Proofs.Ytcpnmbklkjdjlaa
