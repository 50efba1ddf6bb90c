/- Layer 8: the program's Size, Check. -/
import Derived.Test.YtcmghbglnkfbaaaPgF
import Derived.StillTailTactics
namespace Go.Proofs.Ytcmghbglnkfbaaa
open Go.RowKit
set_option linter.unusedVariables false
set_option maxRecDepth 100000

set_option maxHeartbeats 4000000 in
theorem size_any (n : Nd) (A1 : Option Addr) (c1 : Nat) (A2 : Option Addr) (c2 : Nat) (A3 : Option Addr) (c3 : Nat) (w : World) (h : No w A1 c1 A2 c2 A3 c3 n) (hf : Few8 n) :
    Calls Try.prog 21 #[nv8 A1 c1 A2 c2 A3 c3 n] w fun e w' => e = .returned (.int .i64 (size8 n : Nat)) ∧ Turn (fun _ => False) w w' := by
  have f1 := hf.nk
  have f2 := hf.nv
  have hs := hf.sums
  have HK := Lib.hid (fun W (ht : Turn (fun _ => False) w W) => len8_any n.keys A1 c1 W (h.keys.turn ht) f1 hf.ks)
  have HV := Lib.hid (fun W (ht : Turn (fun _ => False) w W) => len8_any n.vals A2 c2 W (h.vals.turn ht) f2 hf.vs)
  have TT := Lib.hid ((Turn.refl (fun _ => False) w).alloc (.cells #[.bool n.leaf, .slice A1 n.keys.length c1, .slice A2 n.vals.length c2, .slice A3 n.kids.length c3] 26))
  have BB := Lib.hid (Blk.new w 26 [.bool n.leaf, .slice A1 n.keys.length c1, .slice A2 n.vals.length c2, .slice A3 n.kids.length c3])
  clear h hf
  obtain ⟨leaf, K, V, Z⟩ := n
  simp only [nv8, size8, kb8] at *
  generalize sumS K = SK at *
  generalize sumS V = SV at *
  generalize K.length = nk at *
  generalize V.length = nv at *
  generalize Z.length = nd at *
  go_enter Try.func21, Try.ntmps21
  go_wp2_with fail
  refine (HK.out _ TT.out).mono ?_
  rintro e w1 ⟨rfl, hw1⟩
  have T1 : Hid (Turn (fun _ => False) w w1) := Lib.hid (hw1 ▸ TT.out)
  have B1 : Hid (Blk w1 w.heap.size 26 [.bool leaf, .slice A1 nk c1, .slice A2 nv c2, .slice A3 nd c3]) := Lib.hid (hw1 ▸ BB.out)
  clear hw1
  have y0 : w1.cell? ⟨w.heap.size, 0, none⟩ = some (.bool leaf) := B1.out.cell 0
  have y1 : w1.cell? ⟨w.heap.size, 1, none⟩ = some (.slice A1 nk c1) := B1.out.cell 1
  have y2 : w1.cell? ⟨w.heap.size, 2, none⟩ = some (.slice A2 nv c2) := B1.out.cell 2
  have hs1 := hs.1
  have hs2 := hs.2
  have z1 := wrap_of (3 + (SK : Int)) (by omega) (by omega)
  have z2 := wrap_of (3 * (nk : Int)) (by omega) (by omega)
  have z3 := wrap_of (5 * (nk : Int)) (by omega) (by omega)
  have z4 := wrap_of (3 + (SK : Int) + 4) (by omega) (by omega)
  have z5 := wrap_of (3 + (SK : Int) + 4 + 5 * (nk : Int)) (by omega) (by omega)
  have z6 := wrap_of (3 + (SK : Int) + 3 * (nk : Int)) (by omega) (by omega)
  have z7 := wrap_of (3 + (SK : Int) + 3 * (nk : Int) + (SV : Int)) (by omega) (by omega)
  have hE : ∀ q : Nat, Turn (fun _ => False) w (w1.drewN q) := fun q => T1.out.drewN q
  have HE := Lib.hid hE
  clear hE hs
  cases leaf
  · go_wp2_with fail
    go_ret
    exact ⟨by first | rfl | (congr 3; push_cast; omega) | (congr 3; simp; omega), T1.out⟩
  · go_wp2_with fail
    go_quiet ((go_at_call 38; refine Calls.quiet_of_same (HV.out _ (HE.out _))))
    go_wp2_with fail
    go_ret
    exact ⟨by first | rfl | (congr 3; push_cast; omega) | (congr 3; simp; omega), HE.out _⟩
/-- Check's answer, as a number. -/
noncomputable def check8 (n : Nd) : Nat := if st8 n then (if size8 n ≤ 1024 then 0 else 5) else 2
theorem check_any (n : Nd) (A1 : Option Addr) (c1 : Nat) (A2 : Option Addr) (c2 : Nat) (A3 : Option Addr) (c3 : Nat) (w : World) (h : No w A1 c1 A2 c2 A3 c3 n) (hf : Few8 n) :
    Calls Try.prog 11 #[nv8 A1 c1 A2 c2 A3 c3 n] w fun e w' => e = .returned (.int .i64 (check8 n : Nat)) ∧ Turn (fun _ => False) w w' := by
  have HS := Lib.hid (fun W (ht : Turn (fun _ => False) w W) => stands_any n A1 c1 A2 c2 A3 c3 W (h.turn ht) hf)
  have HZ := Lib.hid (fun W (ht : Turn (fun _ => False) w W) => size_any n A1 c1 A2 c2 A3 c3 W (h.turn ht) hf)
  have TT := Lib.hid ((Turn.refl (fun _ => False) w).alloc (.cells #[.bool n.leaf, .slice A1 n.keys.length c1, .slice A2 n.vals.length c2, .slice A3 n.kids.length c3] 26))
  have BB := Lib.hid (Blk.new w 26 [.bool n.leaf, .slice A1 n.keys.length c1, .slice A2 n.vals.length c2, .slice A3 n.kids.length c3])
  clear h hf
  unfold check8
  generalize st8 n = b at *
  generalize size8 n = z at *
  obtain ⟨C, hC⟩ : ∃ c, (if b = true then (if z ≤ 1024 then 0 else 5) else 2) = c := ⟨_, rfl⟩
  rw [hC]
  have HC := Lib.hid hC
  clear hC
  obtain ⟨leaf, K, V, Z⟩ := n
  simp only [nv8] at *
  generalize K.length = nk at *
  generalize V.length = nv at *
  generalize Z.length = nd at *
  go_enter Try.func11, Try.ntmps11
  go_wp2_with fail
  refine (HS.out _ TT.out).mono ?_
  rintro e w1 ⟨rfl, ht1⟩
  have T1 := Lib.hid (TT.out.trans ht1)
  have B1 := Lib.hid (BB.out.turn ht1 (fun h => h))
  clear ht1
  have y0 : w1.cell? ⟨w.heap.size, 0, none⟩ = some (.bool leaf) := B1.out.cell 0
  have y1 : w1.cell? ⟨w.heap.size, 1, none⟩ = some (.slice A1 nk c1) := B1.out.cell 1
  have y2 : w1.cell? ⟨w.heap.size, 2, none⟩ = some (.slice A2 nv c2) := B1.out.cell 2
  have y3 : w1.cell? ⟨w.heap.size, 3, none⟩ = some (.slice A3 nd c3) := B1.out.cell 3
  cases b
  · go_wp2_with fail
    all_goals (go_ret; exact ⟨by rw [← HC.out]; rfl, T1.out⟩)
  · go_wp2_with fail
    refine (HZ.out _ T1.out).mono ?_
    rintro e w2 ⟨rfl, ht2⟩
    have T2 := Lib.hid (T1.out.trans ht2)
    clear ht2
    by_cases hz : z ≤ 1024
    · have h1 : ¬ (1024 : Int) < (z : Int) := by omega
      have HC2 : Hid (C = 0) := Lib.hid (by rw [← HC.out]; simp [hz])
      go_wp2_with fail
      all_goals (go_ret; exact ⟨by rw [HC2.out]; rfl, T2.out⟩)
    · have h1 : (1024 : Int) < (z : Int) := by omega
      have HC2 : Hid (C = 5) := Lib.hid (by rw [← HC.out]; simp [hz])
      go_wp2_with fail
      all_goals (go_ret; exact ⟨by rw [HC2.out]; rfl, T2.out⟩)
/-- sort.Search: how many places are still false. -/
theorem search_any (g : Nat) (cb : Array Value) (n : Nat) (p : Nat → Bool) (w : World) (eg : ∀ args w, (callFunc g args).run Try.prog w = .ok (.enter g args) w) (hn : n ≤ 4000)
    (hf : ∀ X, Turn (fun _ => False) w X → ∀ i, i < n → Calls Try.prog g (#[.int .i64 i] ++ cb) X fun e w' => e = .returned (.bool (p i)) ∧ Turn (fun _ => False) X w')
    (hmono : ∀ a b, a ≤ b → b < n → p a = true → p b = true) :
    Calls Try.prog 35 #[.int .i64 n, .func (.func g) #[] cb] w fun e w' => (∃ r : Nat, e = .returned (.int .i64 r) ∧ r ≤ n ∧ (∀ i, i < r → p i = false) ∧ (r < n → p r = true)) ∧ Turn (fun _ => False) w w' := by
  have HF := Lib.hid hf
  have HM := Lib.hid hmono
  clear hf hmono
  go_enter Try.func35, Try.ntmps35
  go_wp2
  go_loopw [5, 6, 7] (fun s5 s6 _ wr => ∃ lo hi : Nat, s5 = .int .i64 lo ∧ s6 = .int .i64 hi ∧ lo ≤ hi ∧ hi ≤ n ∧ Hid ((∀ t, t < lo → p t = false) ∧ (∀ t, hi ≤ t → t < n → p t = true)) ∧ Turn (fun _ => False) w wr) (fun s5 s6 _ _ => (intOf s6).toNat - (intOf s5).toNat)
  case atStart => exact ⟨0, n, rfl, rfl, Nat.zero_le _, Nat.le_refl _, Lib.hid ⟨fun t ht => absurd ht (Nat.not_lt_zero _), fun t h1 h2 => by omega⟩, Turn.refl _ w⟩
  case round =>
    obtain ⟨lo, hi, rfl, rfl, hlh, hin, HI, hT⟩ := hrel
    have TT := Lib.hid hT
    by_cases hlt : lo < hi
    · obtain ⟨m, hm⟩ : ∃ m, m = (lo + hi) / 2 := ⟨_, rfl⟩
      have hc := HF.out _ hT m (by omega)
      have e1 : ((lo : Int) + (hi : Int)) / 2 = (m : Int) := by omega
      have hlt2 : (lo : Int) < (hi : Int) := by omega
      have hm1 : lo ≤ m := by omega
      have hm2 : m < hi := by omega
      have HC := Lib.hid hc
      clear hT hc hm
      cases hp : p m <;> rw [hp] at HC
      · have HP := Lib.hid hp
        clear hp
        go_wp2_with fail
        refine HC.out.mono ?_
        rintro e w1 ⟨rfl, ht1⟩
        have T1 := Lib.hid (TT.out.trans ht1)
        have I2 : Hid ((∀ t, t < m + 1 → p t = false) ∧ (∀ t, hi ≤ t → t < n → p t = true)) := Lib.hid ⟨fun t ht => (by
            cases h : p t with
            | false => rfl
            | true => have := HM.out t m (by omega) (by omega) h; rw [HP.out] at this; cases this), HI.out.2⟩
        clear ht1
        go_wp2_with fail
        go_roundw
        case rel => exact ⟨m + 1, hi, by go_num, rfl, by omega, hin, I2, T1.out⟩
        case measure => simp [intOf]; omega
      · have HP := Lib.hid hp
        clear hp
        go_wp2_with fail
        refine HC.out.mono ?_
        rintro e w1 ⟨rfl, ht1⟩
        have T1 := Lib.hid (TT.out.trans ht1)
        have I2 : Hid ((∀ t, t < lo → p t = false) ∧ (∀ t, m ≤ t → t < n → p t = true)) := Lib.hid ⟨HI.out.1, fun t ht htn => HM.out m t ht htn HP.out⟩
        clear ht1
        go_wp2_with fail
        go_roundw
        case rel => exact ⟨lo, m, rfl, rfl, by omega, by omega, I2, T1.out⟩
        case measure => simp [intOf]; omega
    · obtain rfl : hi = lo := by omega
      have hlt2 : ¬ (hi : Int) < (hi : Int) := by omega
      clear hT
      go_wp2_with fail
      go_ret
      exact ⟨⟨_, rfl, hin, HI.out.1, fun h => HI.out.2 _ (Nat.le_refl _) h⟩, TT.out⟩
end Go.Proofs.Ytcmghbglnkfbaaa
