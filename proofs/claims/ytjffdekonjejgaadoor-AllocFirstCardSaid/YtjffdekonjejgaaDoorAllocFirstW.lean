/- AllocFirst: its walk. -/
import Derived.Test.YtjffdekonjejgaaDoorAlU
namespace Go.Proofs.YtjffdekonjejgaaDoor
open Go.RowKit
set_option linter.unusedVariables false
set_option maxRecDepth 100000

/-- The first row that is long enough, or -1. -/
def want7 (k : Int) (l : List (Nat × Nat)) : Int := match l.find? (fun x => decide (k ≤ (x.2 : Int))) with
  | some x => x.1
  | none => -1
theorem want7_cons (k : Int) (x : Nat × Nat) (l : List (Nat × Nat)) : want7 k (x :: l) = if k ≤ (x.2 : Int) then (x.1 : Int) else want7 k l := by
  unfold want7
  rw [List.find?_cons]
  by_cases h : k ≤ (x.2 : Int)
  · simp [h]
  · simp [h]
theorem sum7_cons (x : Nat × Nat) (l : List (Nat × Nat)) : sum7 (x :: l) = x.2 + sum7 l := by simp [sum7]
theorem sum7_drop (l : List (Nat × Nat)) (n : Nat) : sum7 (l.drop n) ≤ sum7 l := by
  induction l generalizing n with
  | nil => simp [sum7]
  | cons x l ih =>
    cases n with
    | zero => exact Nat.le_refl _
    | succ n => rw [List.drop_succ_cons, sum7_cons]; have := ih n; omega
set_option maxHeartbeats 8000000 in
theorem allocFirst_walk (v : Value) (qs : List Ac) (k : Int) (w : World) (hq : Acs w.heap.size w v qs) (hk : -9223372036854775808 ≤ k ∧ k ≤ 9223372036854775807) (hT : Tb w) :
    Calls Tryd.prog 6 #[v, .int .i64 k] w fun r w' => r = .returned (.bool true) ∧ Below w.heap.size w w' := by
  have HB := Lib.hid (begun7 v qs w hq hT)
  have hqv : ∃ A n c, v = .slice A n c := by obtain ⟨A, c, h, _⟩ := hq; exact ⟨A, _, c, h⟩
  obtain ⟨A0, n0, c0, rfl⟩ := hqv
  have HL7 := Lib.hid (fun w h => lives7 w h)
  clear hq hT
  by_cases hk1 : k < 1
  · go_enter Tryd.func6, Tryd.ntmps6
    go_wp2_with (go_at_call 18; refine HB.out.mono ?_; rintro e w1 ⟨p, g, l, rfl, ha1, hl, hp, hg, ht1⟩)
    have HLV := Lib.hid (HL7.out _ ha1.tb)
    have T1 := Lib.hid ht1
    clear ha1 ht1 hl
    go_wp2_with fail
    refine HLV.out.mono ?_
    rintro e w6 ⟨rfl, ht6⟩
    go_wp2_with fail
    go_ret
    exact ⟨rfl, (T1.out.trans ht6).below (Nat.le_refl _) (fun _ h => h.elim)⟩
  · have hk2 : 1 ≤ k := by omega
    go_enter Tryd.func6, Tryd.ntmps6
    go_wp2_with (go_at_call 18; refine HB.out.mono ?_; rintro e w1 ⟨p, g, l, rfl, ha1, hl, hp, hg, ht1⟩)
    have A1 := Lib.hid ha1
    have T1 := Lib.hid ht1
    have HL := Lib.hid hl
    have HR := Lib.hid (rowsList7 ha1)
    have hrn := rows7_len (l ++ [false]) 0 0
    have hrl : (rows7 l).length ≤ 101 := by
      rw [List.length_append, hl] at hrn
      exact hrn
    have hfl := free_le l
    rw [hl] at hfl
    have hmem := Lib.hid (rows7_mem l)
    clear ha1 ht1 hl hrn
    go_wp2_with fail
    refine HR.out.mono ?_
    rintro e w2 ⟨v2, rfl, ho2, ht2⟩
    have P2 := Lib.hid (pr_own ho2)
    have A2 := Lib.hid (A1.out.still ht2)
    have T2 := Lib.hid (T1.out.trans ht2)
    obtain ⟨A, c, rfl⟩ := own_slice7 ho2
    have HTK := Lib.hid (take7 A2.out k hk.2)
    have HC7 := Lib.hid (tak7_cases l k)
    have HFR := Lib.hid (freeCount7 A2.out)
    have HSM := Lib.hid (sum_rows7 l)
    clear ho2 ht2
    obtain ⟨n, hn⟩ : ∃ n, n = (rows7 l).length := ⟨_, rfl⟩
    have HN := Lib.hid hn
    rw [← hn] at hrl ⊢
    clear hn
    have e0 := wrap_of ((n : Int) - 1) (by omega) (by omega)
    go_wp2_with fail
    go_loop [7, 8, 9] (fun v7 v8 v9 => ∃ m : Nat, m ≤ n ∧ v9 = .int .i64 ((m : Int) - 1) ∧ v7 = .int .i64 (want7 k ((rows7 l).drop m)) ∧ v8 = .int .i64 ((sum7 ((rows7 l).drop m) : Nat) : Int)) (fun _ _ v9 => (intOf v9 + 1).toNat)
    case atStart => exact ⟨n, Nat.le_refl _, rfl, by rw [List.drop_eq_nil_of_le (by rw [← HN.out]; exact Nat.le_refl _)]; rfl, by rw [List.drop_eq_nil_of_le (by rw [← HN.out]; exact Nat.le_refl _)]; rfl⟩
    case round =>
      obtain ⟨m, hm, rfl, rfl, rfl⟩ := hrel
      by_cases hm0 : 0 < m
      · obtain ⟨j, rfl⟩ : ∃ j, m = j + 1 := ⟨m - 1, by omega⟩
        obtain ⟨x, hx⟩ : ∃ x, (rows7 l)[j]? = some x := ⟨_, List.getElem?_eq_getElem (by rw [← HN.out]; omega)⟩
        have hxm := (hmem.out x (List.mem_of_getElem? hx)).2.1
        rw [HL.out] at hxm
        have hd : (rows7 l).drop j = x :: (rows7 l).drop (j + 1) := by
          obtain ⟨h4, h5⟩ := List.getElem?_eq_some_iff.1 hx
          rw [← h5]; exact List.drop_eq_getElem_cons h4
        have HW : Hid (want7 k ((rows7 l).drop j) = if k ≤ (x.2 : Int) then (x.1 : Int) else want7 k ((rows7 l).drop (j + 1))) := Lib.hid (by rw [hd, want7_cons])
        have HS : Hid (sum7 ((rows7 l).drop j) = x.2 + sum7 ((rows7 l).drop (j + 1))) := Lib.hid (by rw [hd, sum7_cons])
        have hsd := sum7_drop (rows7 l) (j + 1)
        rw [HSM.out] at hsd
        obtain ⟨A', c', he, hP⟩ := P2.out
        injection he with he1 he2 he3
        obtain ⟨b, hb, hbl, hcells⟩ := hP (by rw [← HN.out]; omega)
        rw [← he1] at hb
        subst hb
        obtain ⟨q0, q1⟩ := hcells j x hx
        obtain ⟨x1, x2⟩ := x
        simp only at q0 q1 hxm
        generalize want7 k ((rows7 l).drop (j + 1)) = W at *
        generalize sum7 ((rows7 l).drop (j + 1)) = s at *
        have e1 : (((j + 1 : Nat) : Int) - 1) = (j : Int) := by omega
        have hj0 : (0 : Int) ≤ (j : Int) := by omega
        have hjn : (j : Int) < (n : Int) := by omega
        have e2 := wrap_of ((j : Int) - 1) (by omega) (by omega)
        have e3 := wrap_of ((s : Int) + (x2 : Int)) (by omega) (by omega)
        clear hcells hP hd he1 he2 he3 hx
        rw [e1]
        clear e1
        by_cases hkx : k ≤ (x2 : Int)
        · go_wp2_with fail
          go_round
          case rel => exact ⟨j, by omega, rfl, by rw [HW.out, if_pos hkx], by rw [HS.out]; simp; omega⟩
          case measure => (simp [intOf]; try omega)
        · have hkx2 : (x2 : Int) < k := by omega
          go_wp2_with fail
          go_round
          case rel => exact ⟨j, by omega, rfl, by rw [HW.out, if_neg hkx], by rw [HS.out]; simp; omega⟩
          case measure => (simp [intOf]; try omega)
      · obtain rfl : m = 0 := by omega
        rw [List.drop_zero, HSM.out]
        have hneg : ((((0 : Nat) : Int) - 1) : Int) = -1 := rfl
        rw [hneg]
        clear hneg
        go_wp2_with fail
        refine HFR.out.mono ?_
        rintro e w3 ⟨rfl, rfl⟩
        go_wp2_with fail
        refine HTK.out.mono ?_
        rintro e w4 ⟨rfl, ha4, ht4⟩
        have T4 := Lib.hid (T2.out.trans_new ht4 (fun j hj h => by omega))
        have HLV := Lib.hid (HL7.out _ ha4.tb)
        clear ha4 ht4
        rcases HC7.out with ⟨hx1, htk⟩ | ⟨hx1, hf, htk⟩ | ⟨I, C, K, rfl, hK1, hf, hKC, hIC, hall, htk⟩
        · omega
        · have hw : want7 k (rows7 l) = -1 := by unfold want7; rw [hf]
          rw [htk, hw]
          generalize free7 l = F at *
          clear hw hf htk HC7
          go_wp2_with fail
          refine HLV.out.mono ?_
          rintro e w6 ⟨rfl, ht6⟩
          go_wp2_with fail
          go_ret
          exact ⟨rfl, (T4.out.trans ht6).below (Nat.le_refl _) (fun _ h => h.elim)⟩
        · have hw : want7 K (rows7 l) = (I : Int) := by unfold want7; rw [hf]
          rw [htk, hw]
          have hI0 : (0 : Int) ≤ (I : Int) := by omega
          generalize free7 l = F at *
          clear hw hf htk HC7 hall
          go_wp2_with fail
          refine HLV.out.mono ?_
          rintro e w6 ⟨rfl, ht6⟩
          go_wp2_with fail
          go_ret
          exact ⟨rfl, (T4.out.trans ht6).below (Nat.le_refl _) (fun _ h => h.elim)⟩
end Go.Proofs.YtjffdekonjejgaaDoor
