/- Layer 11: supers, plain: their bytes, and what bytes are read as. -/
import Derived.Test.YtcjoinahelmmpaaSltA
import Derived.Deep.QuietTactic
import Derived.BigQuiet
namespace Go.Proofs.Ytcjoinahelmmpaa
open Go.RowKit
set_option linter.unusedVariables false

/-- A super. -/
structure Sup where
  g : Int
  r : Int
  t : Int
  e : Int
  l : Int
  m : Int
deriving DecidableEq
@[go_sem] def uv (s : Sup) : Value := .agg #[.int .i64 s.g, .int .i64 s.r, .int .i64 s.t, .int .i64 s.e, .int .i64 s.l, .int .i64 s.m]
def rU (s : Sup) : Bool := decide (0 ≤ s.g ∧ s.g ≤ 1152921504606846976 ∧ -1 ≤ s.r ∧ s.r ≤ 16383 ∧ 0 ≤ s.t ∧ s.t ≤ 1152921504606846976 ∧ 0 ≤ s.e ∧ s.e ≤ 2147483647 ∧ 0 ≤ s.l ∧ s.l ≤ 1152921504606846976 ∧ 0 ≤ s.m ∧ s.m ≤ s.l)
theorem rU_yes {s : Sup} (h : rU s = true) : 0 ≤ s.g ∧ s.g ≤ 1152921504606846976 ∧ -1 ≤ s.r ∧ s.r ≤ 16383 ∧ 0 ≤ s.t ∧ s.t ≤ 1152921504606846976 ∧ 0 ≤ s.e ∧ s.e ≤ 2147483647 ∧ 0 ≤ s.l ∧ s.l ≤ 1152921504606846976 ∧ 0 ≤ s.m ∧ s.m ≤ s.l := of_decide_eq_true h
/-- A super's bytes. -/
def u0 : List UInt8 := [65, 77, 66, 82]
def u1 (s : Sup) : List UInt8 := u0 ++ fld 8 s.g
def u2 (s : Sup) : List UInt8 := u1 s ++ fld 4 (s.r + 1)
def u3 (s : Sup) : List UInt8 := u2 s ++ fld 8 s.t
def u4 (s : Sup) : List UInt8 := u3 s ++ fld 4 s.e
def u5 (s : Sup) : List UInt8 := u4 s ++ fld 8 s.l
def u6 (s : Sup) : List UInt8 := u5 s ++ fld 8 s.m
def u7 (s : Sup) : List UInt8 := u6 s ++ fld 4 (csum (u6 s) : Nat)
def putU (s : Sup) : List UInt8 := u7 s ++ List.replicate 80 0
theorem len_u0 : u0.length = 4 := rfl
theorem len_u1 (s : Sup) : (u1 s).length = 12 := by simp [u1, len_u0, len_fld]
theorem len_u2 (s : Sup) : (u2 s).length = 16 := by simp [u2, len_u1, len_fld]
theorem len_u3 (s : Sup) : (u3 s).length = 24 := by simp [u3, len_u2, len_fld]
theorem len_u4 (s : Sup) : (u4 s).length = 28 := by simp [u4, len_u3, len_fld]
theorem len_u5 (s : Sup) : (u5 s).length = 36 := by simp [u5, len_u4, len_fld]
theorem len_u6 (s : Sup) : (u6 s).length = 44 := by simp [u6, len_u5, len_fld]
theorem len_u7 (s : Sup) : (u7 s).length = 48 := by simp [u7, len_u6, len_fld]
theorem len_putU (s : Sup) : (putU s).length = 128 := by simp [putU, len_u7]
/-- What bytes tell, right or not. -/
def parseU (l : List UInt8) : Sup := ⟨wrap64 (num 8 l 4 : Nat), (num 4 l 12 : Nat) - 1, wrap64 (num 8 l 16 : Nat), (num 4 l 24 : Nat), wrap64 (num 8 l 28 : Nat), wrap64 (num 8 l 36 : Nat)⟩
/-- The super of bytes. -/
def readU (l : List UInt8) : Option Sup := if l.length = 128 ∧ rU (parseU l) = true ∧ putU (parseU l) = l then some (parseU l) else none
theorem parse_putU {s : Sup} (h : rU s = true) : parseU (putU s) = s := by
  obtain ⟨a1, a2, a3, a4, a5, a6, a7, a8, a9, a10, a11, a12⟩ := rU_yes h
  have e1 : putU s = u0 ++ fld 8 s.g ++ (fld 4 (s.r + 1) ++ fld 8 s.t ++ fld 4 s.e ++ fld 8 s.l ++ fld 8 s.m ++ fld 4 (csum (u6 s) : Nat) ++ List.replicate 80 0) := by simp [putU, u7, show u6 s = u0 ++ fld 8 s.g ++ fld 4 (s.r + 1) ++ fld 8 s.t ++ fld 4 s.e ++ fld 8 s.l ++ fld 8 s.m from rfl]
  have e2 : putU s = u1 s ++ fld 4 (s.r + 1) ++ (fld 8 s.t ++ fld 4 s.e ++ fld 8 s.l ++ fld 8 s.m ++ fld 4 (csum (u6 s) : Nat) ++ List.replicate 80 0) := by rw [e1]; simp [u1]
  have e3 : putU s = u2 s ++ fld 8 s.t ++ (fld 4 s.e ++ fld 8 s.l ++ fld 8 s.m ++ fld 4 (csum (u6 s) : Nat) ++ List.replicate 80 0) := by rw [e2]; simp [u2]
  have e4 : putU s = u3 s ++ fld 4 s.e ++ (fld 8 s.l ++ fld 8 s.m ++ fld 4 (csum (u6 s) : Nat) ++ List.replicate 80 0) := by rw [e3]; simp [u3]
  have e5 : putU s = u4 s ++ fld 8 s.l ++ (fld 8 s.m ++ fld 4 (csum (u6 s) : Nat) ++ List.replicate 80 0) := by rw [e4]; simp [u4]
  have e6 : putU s = u5 s ++ fld 8 s.m ++ (fld 4 (csum (u6 s) : Nat) ++ List.replicate 80 0) := by rw [e5]; simp [u5]
  have n1 := num_nat 8 (by decide) s.g a1 (by simp; omega) _ _ _ 4 e1 len_u0
  have n2 := num_nat 4 (by decide) (s.r + 1) (by omega) (by simp; omega) _ _ _ 12 e2 (len_u1 s)
  have n3 := num_nat 8 (by decide) s.t a5 (by simp; omega) _ _ _ 16 e3 (len_u2 s)
  have n4 := num_nat 4 (by decide) s.e a7 (by simp; omega) _ _ _ 24 e4 (len_u3 s)
  have n5 := num_nat 8 (by decide) s.l a9 (by simp; omega) _ _ _ 28 e5 (len_u4 s)
  have n6 := num_nat 8 (by decide) s.m a11 (by simp; omega) _ _ _ 36 e6 (len_u5 s)
  have w1 : wrap64 s.g = s.g := IntWalk.wrap64_in _ ⟨by omega, by omega⟩
  have w3 : wrap64 s.t = s.t := IntWalk.wrap64_in _ ⟨by omega, by omega⟩
  have w5 : wrap64 s.l = s.l := IntWalk.wrap64_in _ ⟨by omega, by omega⟩
  have w6 : wrap64 s.m = s.m := IntWalk.wrap64_in _ ⟨by omega, by omega⟩
  unfold parseU
  rw [n1, n2, n3, n4, n5, n6, w1, w3, w5, w6, Int.add_sub_cancel]
theorem readU_put {s : Sup} (h : rU s = true) : readU (putU s) = some s := by
  have h1 := parse_putU h
  unfold readU
  rw [h1, if_pos ⟨len_putU s, h, rfl⟩]
theorem readU_is {l : List UInt8} {s : Sup} (h : readU l = some s) : rU s = true ∧ putU s = l ∧ l.length = 128 := by
  unfold readU at h
  split at h
  · rename_i hh
    injection h with h
    subst h
    exact ⟨hh.2.1, hh.2.2, hh.1⟩
  · cases h
theorem nfld_valU (l : List UInt8) : nfld l.length (val l) = l := by
  induction l with
  | nil => rfl
  | cons c l ih =>
    have hv : val l < 256 ^ l.length := val_lt l
    have hp : 2 ^ (8 * l.length) = 256 ^ l.length := by rw [Nat.pow_mul]
    show UInt8.ofNat (val (c :: l) / 2 ^ (8 * l.length) % 256) :: nfld l.length (val (c :: l)) = _
    rw [val_cons, ← nfld_mod l.length (8 * l.length) _ (Nat.le_refl _), hp, Nat.mul_comm, Nat.mul_add_mod, Nat.mod_eq_of_lt hv, ih, Nat.mul_add_div (Nat.pow_pos (by decide)), Nat.div_eq_of_lt hv, Nat.add_zero, Nat.mod_eq_of_lt c.toNat_lt]
    simp
theorem fld_numU (k : Nat) (l : List UInt8) (at_ : Nat) (h : at_ + k ≤ l.length) : fld k (num k l at_ : Int) = (l.drop at_).take k := by
  rw [fld_nat]
  unfold num
  have hl : ((l.drop at_).take k).length = k := by rw [List.length_take, List.length_drop]; omega
  have := nfld_valU ((l.drop at_).take k)
  rwa [hl] at this
theorem fld_wrapU (n : Int) : fld 8 (wrap64 n) = fld 8 n := by
  rw [← fld_wrap 8 (by decide) n, ← fld_wrap 8 (by decide) (wrap64 n)]
  congr 1
  unfold wrap64
  omega
theorem cut_joinU (l : List UInt8) (a n m : Nat) : (l.drop a).take n ++ (l.drop (a + n)).take m = (l.drop a).take (n + m) := by
  rw [List.take_add, List.drop_drop]
theorem u6_parse (l : List UInt8) (h : l.length = 128) : u6 (parseU l) = u0 ++ (l.drop 4).take 40 := by
  show u0 ++ fld 8 (wrap64 (num 8 l 4 : Nat)) ++ fld 4 (((num 4 l 12 : Nat) : Int) - 1 + 1) ++ fld 8 (wrap64 (num 8 l 16 : Nat)) ++ fld 4 (num 4 l 24 : Nat) ++ fld 8 (wrap64 (num 8 l 28 : Nat)) ++ fld 8 (wrap64 (num 8 l 36 : Nat)) = _
  rw [Int.sub_add_cancel, fld_wrapU, fld_wrapU, fld_wrapU, fld_wrapU, fld_numU 8 l 4 (by omega), fld_numU 4 l 12 (by omega), fld_numU 8 l 16 (by omega), fld_numU 4 l 24 (by omega), fld_numU 8 l 28 (by omega), fld_numU 8 l 36 (by omega)]
  simp only [List.append_assoc]
  rw [cut_joinU l 28 8 8, cut_joinU l 24 4 16, cut_joinU l 16 8 20, cut_joinU l 12 4 28, cut_joinU l 4 8 32]
def mkU (l : List UInt8) : Bool := decide (l.take 4 = u0)
def whU (l : List UInt8) : Bool := decide ((l.drop 44).take 4 = fld 4 (csum (l.take 44) : Nat))
def blU (l : List UInt8) : Bool := decide (l.drop 48 = List.replicate 80 0)
theorem partsU (l : List UInt8) (h : l.length = 128) : l = l.take 4 ++ ((l.drop 4).take 40 ++ ((l.drop 44).take 4 ++ l.drop 48)) := by
  conv => lhs; rw [← List.take_append_drop 4 l]
  congr 1
  conv => lhs; rw [← List.take_append_drop 40 (l.drop 4), List.drop_drop]
  congr 1
  conv => lhs; rw [← List.take_append_drop 4 (l.drop (4 + 40)), List.drop_drop]
theorem take44U (l : List UInt8) : l.take 44 = l.take 4 ++ (l.drop 4).take 40 := by rw [← List.take_add]
theorem testsU (l : List UInt8) (h : l.length = 128) : (putU (parseU l) = l) ↔ (mkU l = true ∧ whU l = true ∧ blU l = true) := by
  unfold mkU whU blU
  simp only [decide_eq_true_eq]
  have hp := partsU l h
  have h4 : (l.take 4).length = 4 := by rw [List.length_take]; omega
  have h40 : ((l.drop 4).take 40).length = 40 := by rw [List.length_take, List.length_drop]; omega
  have h44 : ((l.drop 44).take 4).length = 4 := by rw [List.length_take, List.length_drop]; omega
  unfold putU u7
  rw [u6_parse l h, take44U l]
  constructor
  · intro e
    have e := e.trans hp
    simp only [List.append_assoc] at e
    have e1 := List.append_inj e (by rw [len_u0, List.length_take, h]; rfl)
    have e2 := List.append_inj e1.2 rfl
    have e3 := List.append_inj e2.2 (by rw [len_fld, h44])
    rw [← e1.1]
    exact ⟨rfl, e3.1.symm, e3.2.symm⟩
  · rintro ⟨e1, e2, e3⟩
    rw [e1] at e2
    rw [← e2, ← e3, ← e1]
    simp only [List.append_assoc]
    exact hp.symm
theorem testsU_no (l : List UInt8) (h : l.length = 128) (hb : mkU l = false ∨ whU l = false ∨ blU l = false ∨ rU (parseU l) = false) : readU l = none := by
  unfold readU
  rw [if_neg]
  rintro ⟨_, h2, h3⟩
  have := (testsU l h).1 h3
  rcases hb with hb | hb | hb | hb
  · rw [this.1] at hb; cases hb
  · rw [this.2.1] at hb; cases hb
  · rw [this.2.2] at hb; cases hb
  · rw [h2] at hb; cases hb
theorem testsU_yes (l : List UInt8) (h : l.length = 128) (h1 : mkU l = true) (h2 : whU l = true) (h3 : blU l = true) (h4 : rU (parseU l) = true) : readU l = some (parseU l) := by
  unfold readU
  rw [if_pos ⟨h, h4, (testsU l h).2 ⟨h1, h2, h3⟩⟩]
/-- A number of a part of bytes. -/
theorem num_cutU (k : Nat) (l : List UInt8) (a n at_ : Nat) (h : at_ + k ≤ n) : num k ((l.drop a).take n) at_ = num k l (a + at_) := by
  unfold num
  rw [List.drop_take, List.take_take, List.drop_drop, Nat.min_eq_left (by omega)]
end Go.Proofs.Ytcjoinahelmmpaa
/- Layer 11: arrays of bytes that are the same; Check, the document's Right and Check. -/
namespace Go.Proofs.Ytcjoinahelmmpaa
open Go.RowKit
set_option linter.unusedVariables false
set_option maxRecDepth 100000

theorem size_u8 (w : World) : (sizeOf 5).run Try.prog w = .ok 1 w := by kernel_rfl
theorem part_u8 (xs : List UInt8) (i : Nat) (c : UInt8) (hc : xs[i]? = some c) (w : World) : (part 5 (bv xs).toArray (i * 1)).run Try.prog w = .ok (u8v c) w :=
  run_part_plain w (by kernel_rfl) (by rw [Nat.mul_one, List.getElem?_toArray, bv_at, hc]; rfl)
theorem eq_bytes (d n : Nat) (t : TypeId) (ht : Try.prog.underlying t = some (.array n 5)) (xs ys : List UInt8) (hx : xs.length = n) (hy : ys.length = n) (w : World) :
    (Op.equalIn (d + 1 + 1) t (.agg (bv xs).toArray) (.agg (bv ys).toArray)).run Try.prog w = .ok (decide (xs = ys)) w := by
  rw [Op.equalIn]
  simp only [Sem.run_bind, run_underlying ht, Result.andThen_ok, size_u8, Std.Legacy.Range.forIn_eq_forIn_range', Std.Legacy.Range.size]
  have key : ∀ k s, s + k = n → Sem.run Try.prog (forIn (List.range' s k) ((none : Option Bool), ()) fun i _ => do
      let a ← part 5 (bv xs).toArray (i * 1)
      let b ← part 5 (bv ys).toArray (i * 1)
      let c ← Op.equalIn (d + 1) 5 a b
      if (!c) = true then pure (ForInStep.done (some false, ())) else pure (ForInStep.yield (none, ()))) w = .ok (if xs.drop s = ys.drop s then (none, ()) else (some false, ())) w := by
    intro k
    induction k with
    | zero =>
      intro s hs
      rw [List.drop_eq_nil_of_le (by omega), List.drop_eq_nil_of_le (by omega), if_pos rfl]
      simp [List.range', Sem.run_pure]
    | succ k ih =>
      intro s hs
      have h1 : s < xs.length := by omega
      have h2 : s < ys.length := by omega
      have e1 : xs[s]? = some xs[s] := List.getElem?_eq_getElem h1
      have e2 : ys[s]? = some ys[s] := List.getElem?_eq_getElem h2
      rw [List.range'_succ, List.forIn_cons]
      have hq := run_equalIn_int (P := Try.prog) w d 5 .u8 .u8 (xs[s].toNat : Int) (ys[s].toNat : Int) Try.underlying5
      simp only [Sem.run_bind, part_u8 xs s _ e1, part_u8 ys s _ e2, Result.andThen_ok, u8v, hq]
      rw [List.drop_eq_getElem_cons h1, List.drop_eq_getElem_cons h2]
      by_cases hc : xs[s] = ys[s]
      · have hb : ((xs[s].toNat : Int) == (ys[s].toNat : Int)) = true := by simp [hc]
        rw [hb]
        simp only [Bool.not_true, Bool.false_eq_true, if_false, Sem.run_pure, Result.andThen_ok]
        rw [ih (s + 1) (by omega)]
        by_cases hd : xs.drop (s + 1) = ys.drop (s + 1)
        · rw [if_pos hd, if_pos (by rw [hc, hd])]
        · rw [if_neg hd, if_neg (fun h => hd (List.cons.inj h).2)]
      · have hb : ((xs[s].toNat : Int) == (ys[s].toNat : Int)) = false := by
          simp only [beq_eq_false_iff_ne, ne_eq]
          intro h
          exact hc (UInt8.toNat_inj.1 (by omega))
        rw [hb]
        simp only [Bool.not_false, if_true, Sem.run_pure, Result.andThen_ok]
        rw [if_neg (fun h => hc (List.cons.inj h).1)]
  rw [show (n - 0 + 1 - 1) / 1 = n from by omega, key n 0 (by omega)]
  simp only [Result.andThen_ok, List.drop_zero]
  by_cases h : xs = ys
  · rw [if_pos h, decide_eq_true h]; rfl
  · rw [if_neg h, decide_eq_false h]; rfl
def ubox (s : Sup) : Obj := .cells #[.int .i64 s.g, .int .i64 s.r, .int .i64 s.t, .int .i64 s.e, .int .i64 s.l, .int .i64 s.m] 23
theorem within_yes (n a b : Int) (h1 : a ≤ n) (h2 : n ≤ b) (w : World) : Calls Try.prog 37 #[.int .i64 n, .int .i64 a, .int .i64 b] w fun e w' => e = .returned (.bool true) ∧ w = w' := by
  have h2' : decide (n ≤ b) = true := decide_eq_true h2
  go_enter Try.func37, Try.ntmps37
  go_wp2
  go_ret
  exact ⟨rfl, rfl⟩
theorem within_no (n a b : Int) (h : n < a ∨ (a ≤ n ∧ b < n)) (w : World) : Calls Try.prog 37 #[.int .i64 n, .int .i64 a, .int .i64 b] w fun e w' => e = .returned (.bool false) ∧ w = w' := by
  rcases h with h1 | ⟨h1, h2⟩
  · have h1' : decide (a ≤ n) = false := decide_eq_false (by omega)
    go_enter Try.func37, Try.ntmps37
    go_wp2
    go_ret
    exact ⟨rfl, rfl⟩
  · have h2' : decide (n ≤ b) = false := decide_eq_false (by omega)
    go_enter Try.func37, Try.ntmps37
    go_wp2
    go_ret
    exact ⟨rfl, rfl⟩
theorem keyU (s : Sup) : (rU s = false ∧ (s.g < 0 ∨ (0 ≤ s.g ∧ 1152921504606846976 < s.g))) ∨ (rU s = false ∧ (0 ≤ s.g ∧ s.g ≤ 1152921504606846976) ∧ (s.r < -1 ∨ (-1 ≤ s.r ∧ 16383 < s.r)))
    ∨ (rU s = false ∧ (0 ≤ s.g ∧ s.g ≤ 1152921504606846976) ∧ (-1 ≤ s.r ∧ s.r ≤ 16383) ∧ (s.t < 0 ∨ (0 ≤ s.t ∧ 1152921504606846976 < s.t)))
    ∨ (rU s = false ∧ (0 ≤ s.g ∧ s.g ≤ 1152921504606846976) ∧ (-1 ≤ s.r ∧ s.r ≤ 16383) ∧ (0 ≤ s.t ∧ s.t ≤ 1152921504606846976) ∧ (s.e < 0 ∨ (0 ≤ s.e ∧ 2147483647 < s.e)))
    ∨ (rU s = false ∧ (0 ≤ s.g ∧ s.g ≤ 1152921504606846976) ∧ (-1 ≤ s.r ∧ s.r ≤ 16383) ∧ (0 ≤ s.t ∧ s.t ≤ 1152921504606846976) ∧ (0 ≤ s.e ∧ s.e ≤ 2147483647) ∧ (s.l < 0 ∨ (0 ≤ s.l ∧ 1152921504606846976 < s.l)))
    ∨ (rU s = false ∧ (0 ≤ s.g ∧ s.g ≤ 1152921504606846976) ∧ (-1 ≤ s.r ∧ s.r ≤ 16383) ∧ (0 ≤ s.t ∧ s.t ≤ 1152921504606846976) ∧ (0 ≤ s.e ∧ s.e ≤ 2147483647) ∧ (0 ≤ s.l ∧ s.l ≤ 1152921504606846976) ∧ (s.m < 0 ∨ (0 ≤ s.m ∧ s.l < s.m)))
    ∨ (rU s = true ∧ (0 ≤ s.g ∧ s.g ≤ 1152921504606846976) ∧ (-1 ≤ s.r ∧ s.r ≤ 16383) ∧ (0 ≤ s.t ∧ s.t ≤ 1152921504606846976) ∧ (0 ≤ s.e ∧ s.e ≤ 2147483647) ∧ (0 ≤ s.l ∧ s.l ≤ 1152921504606846976) ∧ (0 ≤ s.m ∧ s.m ≤ s.l)) := by
  by_cases a1 : 0 ≤ s.g ∧ s.g ≤ 1152921504606846976
  · refine .inr ?_
    by_cases a2 : -1 ≤ s.r ∧ s.r ≤ 16383
    · refine .inr ?_
      by_cases a3 : 0 ≤ s.t ∧ s.t ≤ 1152921504606846976
      · refine .inr ?_
        by_cases a4 : 0 ≤ s.e ∧ s.e ≤ 2147483647
        · refine .inr ?_
          by_cases a5 : 0 ≤ s.l ∧ s.l ≤ 1152921504606846976
          · refine .inr ?_
            by_cases a6 : 0 ≤ s.m ∧ s.m ≤ s.l
            · exact .inr ⟨decide_eq_true ⟨a1.1, a1.2, a2.1, a2.2, a3.1, a3.2, a4.1, a4.2, a5.1, a5.2, a6.1, a6.2⟩, a1, a2, a3, a4, a5, a6⟩
            · exact .inl ⟨decide_eq_false fun h => a6 ⟨h.2.2.2.2.2.2.2.2.2.2.1, h.2.2.2.2.2.2.2.2.2.2.2⟩, a1, a2, a3, a4, a5, by omega⟩
          · exact .inl ⟨decide_eq_false fun h => a5 ⟨h.2.2.2.2.2.2.2.2.1, h.2.2.2.2.2.2.2.2.2.1⟩, a1, a2, a3, a4, by omega⟩
        · exact .inl ⟨decide_eq_false fun h => a4 ⟨h.2.2.2.2.2.2.1, h.2.2.2.2.2.2.2.1⟩, a1, a2, a3, by omega⟩
      · exact .inl ⟨decide_eq_false fun h => a3 ⟨h.2.2.2.2.1, h.2.2.2.2.2.1⟩, a1, a2, by omega⟩
    · exact .inl ⟨decide_eq_false fun h => a2 ⟨h.2.2.1, h.2.2.2.1⟩, a1, by omega⟩
  · exact .inl ⟨decide_eq_false fun h => a1 ⟨h.1, h.2.1⟩, by omega⟩
set_option maxHeartbeats 2000000 in
theorem checkU (s : Sup) (w : World) : Calls Try.prog 12 #[uv s] w fun e w' => e = .returned (.int .i64 (if rU s then 0 else 2)) ∧ w' = w.alloc (ubox s) := by
  have key := keyU s
  obtain ⟨g, r, t, e, l, m⟩ := s
  unfold uv ubox
  simp only at key ⊢
  generalize rU ⟨g, r, t, e, l, m⟩ = R at *
  rcases key with ⟨rfl, h1⟩ | ⟨rfl, h1, h2⟩ | ⟨rfl, h1, h2, h3⟩ | ⟨rfl, h1, h2, h3, h4⟩ | ⟨rfl, h1, h2, h3, h4, h5⟩ | ⟨rfl, h1, h2, h3, h4, h5, h6⟩ | ⟨rfl, h1, h2, h3, h4, h5, h6⟩
  all_goals
    go_enter Try.func12, Try.ntmps12
    go_wp2_with (first
      | (go_at_call 37; refine (within_yes _ _ _ (by omega) (by omega) _).mono ?_; rintro e w' ⟨rfl, rfl⟩)
      | (go_at_call 37; refine (within_no _ _ _ (by omega) _).mono ?_; rintro e w' ⟨rfl, rfl⟩))
    go_ret
    exact ⟨rfl, rfl⟩
set_option maxHeartbeats 2000000 in
theorem refRightU (s : Sup) (w : World) : Calls Try.prog 34 #[uv s] w fun e w' => e = .returned (.bool (rU s)) ∧ w' = w.alloc (ubox s) := by
  have key := keyU s
  obtain ⟨g, r, t, e, l, m⟩ := s
  unfold uv ubox
  simp only at key ⊢
  generalize rU ⟨g, r, t, e, l, m⟩ = R at *
  have no : ∀ a b : Int, b < a → decide (a ≤ b) = false := fun a b h => decide_eq_false (by omega)
  have no2 : ∀ a b : Int, b ≤ a → decide (a < b) = false := fun a b h => decide_eq_false (by omega)
  rcases key with ⟨rfl, h1 | ⟨h0, h1⟩⟩ | ⟨rfl, h1, h2 | ⟨h0, h2⟩⟩ | ⟨rfl, h1, h2, h3 | ⟨h0, h3⟩⟩ | ⟨rfl, h1, h2, h3, h4 | ⟨h0, h4⟩⟩ | ⟨rfl, h1, h2, h3, h4, h5 | ⟨h0, h5⟩⟩ | ⟨rfl, h1, h2, h3, h4, h5, h6 | ⟨h0, h6⟩⟩ | ⟨rfl, h1, h2, h3, h4, h5, h6⟩
  all_goals
    (try have k1 := no _ _ h1)
    (try have k2 := no _ _ h2)
    (try have k2' := no2 r 16384 (by omega))
    (try have k3 := no _ _ h3)
    (try have k4 := no _ _ h4)
    (try have k5 := no _ _ h5)
    (try have k6 := no _ _ h6)
    clear no no2
    go_enter Try.func34, Try.ntmps34
    go_wp2
    all_goals
      go_ret
      exact ⟨by first | rfl | (simp; omega) | simp [*], rfl⟩
theorem refCheckU (s : Sup) (w : World) : Calls Try.prog 13 #[uv s] w fun e w' => e = .returned (.int .i64 (if rU s then 0 else 2)) ∧ Turn (fun _ => False) w w' := by
  have HR := Lib.hid (refRightU s)
  obtain ⟨g, r, t, e, l, m⟩ := s
  unfold uv at *
  simp only at HR ⊢
  generalize rU ⟨g, r, t, e, l, m⟩ = R at *
  cases R
  all_goals
    go_enter Try.func13, Try.ntmps13
    go_wp2_with (go_at_call 34; refine (HR.out _).mono ?_; rintro e w' ⟨rfl, rfl⟩)
    go_ret
    exact ⟨rfl, ((Turn.refl _ _).alloc _).alloc _⟩
end Go.Proofs.Ytcjoinahelmmpaa
