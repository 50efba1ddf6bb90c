/- Layer 5: Join (begun: the round's arms are left). -/
import Derived.Test.YtpccelebidiekaaSltP
namespace Go.Proofs.Ytpccelebidiekaa
open Go.RowKit
set_option linter.unusedVariables false
set_option maxRecDepth 100000

structure Rc where
  q : Int
  n : Int
  d : ByteArray
def rcells (x : Rc) : List Value := [.int .i64 x.q, .int .i64 x.n, .string x.d]
theorem len_rcells (l : List Rc) : (l.flatMap rcells).length = l.length * 3 := by
  induction l with
  | nil => rfl
  | cons x l ih => rw [List.flatMap_cons, List.length_append, ih, List.length_cons]; simp [rcells]; omega
/-- Records of slots, from what has been read so far: records, an open one's bytes, the Seq behind, whether one is open. -/
def jn5 : List St → List Rc → List UInt8 → Int → Bool → List Rc × Int
  | [], rs, _, nx, _ => (rs, nx)
  | s :: l, rs, d, nx, op =>
    if s.f = op then (rs, nx)
    else if s.z then jn5 l (rs ++ [⟨nx, wrap64 (s.q + 1), ⟨(d ++ s.d.data.toList).toArray⟩⟩]) [] (wrap64 (s.q + 1)) false
    else jn5 l rs (d ++ s.d.data.toList) nx true
theorem Try.infoRecord : (Try.prog.info? 53).map (fun i => (i.zero, i.size, i.bytes)) = some (some (.agg #[.int .i64 0, .int .i64 0, .string ⟨#[]⟩]), 3, 32) := by kernel_rfl
theorem adv_r5 {R : List St} {i : Nat} {s : St} (h : adv5 R i = true) (hs : R[i]? = some s) : r5 s = true := by
  unfold adv5 at h
  rw [hs] at h
  simp only [Bool.and_eq_true] at h
  exact h.1
theorem Row5.take {w : World} {A : Option Addr} {cap : Nat} {R : List St} (h : Row5 w (.slice A R.length cap) R) (k : Nat) (hk : k ≤ R.length) (c : Nat) : Row5 w (.slice A k c) (R.take k) := by
  obtain ⟨A', cap', e, hr⟩ := h
  injection e with e1 e2 e3
  subst e1
  refine ⟨A, c, by rw [List.length_take, Nat.min_eq_left hk], fun hp => ?_⟩
  obtain ⟨b, rfl, hlt, hc⟩ := hr (by rw [List.length_take] at hp; omega)
  refine ⟨b, rfl, hlt, fun j s hj i hi => hc j s ?_ i hi⟩
  rw [List.getElem?_take] at hj
  split at hj
  · exact hj
  · cases hj
set_option maxHeartbeats 2000000 in
theorem join5_none (R : List St) (hR : R.length ≤ 1000000) (v : Value) (w : World) (h1 : Row5 w v R) (h0 : adv5 R 0 = false) :
    Calls Try.prog 22 #[v] w fun r w' => r = .returned (.tuple #[.slice none 0 0, .int .i64 0]) ∧ Below w.heap.size w w' := by
  have HF := Lib.hid (fun W (h : Row5 W v R) => following5 R hR v W h)
  have H1 := Lib.hid h1
  obtain ⟨A1, c1, rfl, r1⟩ := h1
  clear r1
  have HN : Hid (R.length ≤ 1000000) := Lib.hid hR
  generalize R.length = n at *
  go_enter Try.func22, Try.ntmps22
  go_wp2_with fail
  refine (HF.out _ H1.out).mono ?_
  rintro e w1 ⟨k, rfl, hk, ha, hb, hbl⟩
  obtain rfl : k = 0 := by
    rcases Nat.eq_zero_or_pos k with h | h
    · exact h
    · have := ha 0 h; rw [h0] at this; cases this
  go_wp2
  go_ret2
  exact ⟨rfl, hbl⟩
end Go.Proofs.Ytpccelebidiekaa
