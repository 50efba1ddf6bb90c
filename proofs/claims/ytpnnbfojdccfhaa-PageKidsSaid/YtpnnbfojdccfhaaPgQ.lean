/- Layer 8: changed. -/
import Derived.Test.YtpnnbfojdccfhaaPgP
namespace Go.Proofs.Ytpnnbfojdccfhaa
open Go.RowKit
set_option linter.unusedVariables false
set_option maxRecDepth 100000

def chg8 (L : List ByteArray) (at_ gone : Nat) (M : List ByteArray) : List ByteArray := L.take at_ ++ M ++ L.drop (at_ + gone)
def off8 (A : Option Addr) (c q : Nat) : Option Addr := match A with
  | none => none
  | some ad => if c = q then some ad else some (ad.add q)
theorem Sr.take {w : World} {A : Option Addr} {L : List ByteArray} (h : Sr w A L) (q : Nat) : Sr w A (L.take q) := fun hp => by
  have hl : 0 < L.length := by rw [List.length_take] at hp; omega
  obtain ⟨b, o, e, hb, hc⟩ := h hl
  refine ⟨b, o, e, hb, fun X hX j s hj => hc X hX j s ?_⟩
  rw [List.getElem?_take] at hj
  split at hj
  · exact hj
  · cases hj
theorem Sr.drop {w : World} {A : Option Addr} {L : List ByteArray} {c : Nat} (h : Sr w A L) (hc : L.length ≤ c) (q : Nat) : Sr w (off8 A c q) (L.drop q) := fun hp => by
  rw [List.length_drop] at hp
  obtain ⟨b, o, rfl, hb, hcc⟩ := h (by omega)
  refine ⟨b, o + q, ?_, hb, fun X hX j s hj => ?_⟩
  · unfold off8; simp only; rw [if_neg (by omega), Addr.add_mid]
  · rw [List.getElem?_drop] at hj
    have := hcc X hX (q + j) s hj
    rw [← Nat.add_assoc] at this; exact this
theorem Cp.take {A : Option Addr} {n c q : Nat} (h : Cp A n c) (hq : q ≤ n) : Cp A q c := ⟨Nat.le_trans hq h.le, h.cm, h.nil⟩
theorem Cp.drop {A : Option Addr} {n c q : Nat} (h : Cp A n c) (hq : q ≤ n) : Cp (off8 A c q) (n - q) (c - q) := by
  refine ⟨by have := h.le; omega, by have := h.cm; omega, fun e => ?_⟩
  cases A with
  | none => have := h.nil rfl; omega
  | some ad => unfold off8 at e; simp only at e; split at e <;> cases e
theorem catR3 (a b c : List ByteArray) (R : Nat → List ByteArray) (h0 : R 0 = a) (h1 : R 1 = b) (h2 : R 2 = c) : catR R 3 = a ++ b ++ c := by
  show ((([] : List ByteArray) ++ R 0) ++ R 1) ++ R 2 = _
  rw [h0, h1, h2, List.nil_append]
set_option maxHeartbeats 2000000 in
theorem changed_any (L M : List ByteArray) (A : Option Addr) (c : Nat) (A' : Option Addr) (c' at_ gone : Nat) (w : World) (h : Sr w A L) (hcp : Cp A L.length c) (h' : Sr w A' M) (hcp' : Cp A' M.length c') (hag : at_ + gone ≤ L.length) (hl : L.length ≤ 4000) (hm : M.length ≤ 4000) :
    Calls Try.prog 39 #[.slice A L.length c, .int .i64 at_, .int .i64 gone, .slice A' M.length c'] w fun e w' => ∃ v, e = .returned v ∧ (w'.ownsRow w.heap.size 9 1 v (chg8 L at_ gone M).length ((chg8 L at_ gone M).map Value.string) ∧ Turn (fun _ => False) w w') := by
  obtain ⟨q, hq⟩ : ∃ q, q = at_ + gone := ⟨_, rfl⟩
  have HC : Hid (∀ W, Turn (fun _ => False) w W → Blk W w.heap.size 23 [.slice A at_ c, .slice A' M.length c', .slice (off8 A c q) (L.length - q) (c - q)] → Calls Try.prog 61 #[.slice (some ⟨w.heap.size, 0, none⟩) 3 3] W fun e w' => ∃ v, e = .returned v ∧ (w'.ownsRow W.heap.size 9 1 v (chg8 L at_ gone M).length ((chg8 L at_ gone M).map Value.string) ∧ Turn (fun _ => False) W w')) := Lib.hid (fun W hT hB => by
    have hcat := catR3 (L.take at_) M (L.drop q) (fun j => if j = 0 then L.take at_ else if j = 1 then M else L.drop q) rfl rfl rfl
    have := concat_any 3 w.heap.size 0 3 (fun j => if j = 0 then A else if j = 1 then A' else off8 A c q) (fun j => if j = 0 then c else if j = 1 then c' else c - q) (fun j => if j = 0 then L.take at_ else if j = 1 then M else L.drop q) W (Nat.le_refl _) hB.lt
      (fun X hX j hj => by
        have hb := (hB.turn hX (fun h => h)).cell j
        have h3 : j = 0 ∨ j = 1 ∨ j = 2 := by omega
        rcases h3 with rfl | rfl | rfl
        · show X.cell? ⟨w.heap.size, 0 + 0, none⟩ = some (.slice A (L.take at_).length c)
          rw [List.length_take, Nat.min_eq_left (by omega)]
          exact hb
        · exact hb
        · show X.cell? ⟨w.heap.size, 0 + 2, none⟩ = some (.slice (off8 A c q) (L.drop q).length (c - q))
          rw [List.length_drop]
          exact hb)
      (fun j hj => by
        have h3 : j = 0 ∨ j = 1 ∨ j = 2 := by omega
        rcases h3 with rfl | rfl | rfl
        · exact (h.turn hT).take at_
        · exact h'.turn hT
        · exact (h.turn hT).drop hcp.le q)
      (fun j hj => by
        have h3 : j = 0 ∨ j = 1 ∨ j = 2 := by omega
        rcases h3 with rfl | rfl | rfl
        · show Cp A (L.take at_).length c
          rw [List.length_take, Nat.min_eq_left (by omega)]; exact hcp.take (by omega)
        · exact hcp'
        · show Cp (off8 A c q) (L.drop q).length (c - q)
          rw [List.length_drop]; exact hcp.drop (by omega))
      (by rw [hcat]; simp only [List.length_append, List.length_take, List.length_drop]; omega)
    rw [hcat] at this
    unfold chg8
    rw [← hq]
    exact this.mono (by rintro e w' ⟨v, rfl, h1, h2⟩; exact ⟨v, rfl, h1, h2⟩))
  have hqq : (at_ : Int) + (gone : Int) = (q : Int) := by omega
  have hqn : q ≤ L.length := by omega
  have hlc := hcp.le
  have hcm := hcp.cm
  unfold maxLen at hcm
  generalize hCH : chg8 L at_ gone M = CH at *
  cases A with
  | none =>
    have hc0 := hcp.nil rfl
    have hn0 : L.length = 0 := by omega
    have ha0 : at_ = 0 := by omega
    have hg0 : gone = 0 := by omega
    have hq0 : q = 0 := by omega
    rw [hn0] at HC ⊢
    clear hCH h hcp h' hcp' hag hl hm hq hqq hqn hlc hcm hn0
    subst ha0 hg0 hq0 hc0
    have z0 := wrap_of (0 : Int) (by decide) (by decide)
    generalize M.length = m at *
    go_enter Try.func39, Try.ntmps39
    go_wp2_with fail
    go_region_held3 (fun _ => True) (trivial)
      (first
        | (refine step_call rfl 61 Try.f61 _ _ rfl Try.func61 (by kernel_rfl) (by kernel_rfl) _ _ (HC.out _ (((Turn.refl (fun _ => False) w).alloc _).drew) (Blk.new w _ _).drew) (by go_simp) ?_; rintro v5 w5 ⟨ho5, ht5⟩; have HO5 := Lib.hid (own_low8 ho5 ((((Turn.refl (fun _ => False) w).alloc _).drew).size)); have T5 := Lib.hid ((((Turn.refl (fun _ => False) w).alloc _).drew).trans ht5); clear ho5 ht5))
    all_goals go_wp2_with fail
    all_goals go_ret
    all_goals exact ⟨_, rfl, HO5.out, T5.out⟩
  | some ad =>
    have z1 : (0 : Int) ≤ (at_ : Int) := by omega
    have z2 : (at_ : Int) ≤ (c : Int) := by omega
    have z3 : (q : Int) ≤ (L.length : Int) := by omega
    have z4 : (0 : Int) ≤ (q : Int) := by omega
    have z5 : (L.length : Int) ≤ (c : Int) := by omega
    have z6 := wrap_of (q : Int) (by omega) (by omega)
    clear hCH h hcp h' hcp' hag hl hm hq hqn hlc hcm
    unfold off8 at HC
    simp only at HC
    generalize M.length = m at *
    generalize L.length = n at *
    go_enter Try.func39, Try.ntmps39
    go_wp2_with fail
    go_region_held3 (fun _ => True) (trivial)
      (first
        | (refine step_call rfl 61 Try.f61 _ _ rfl Try.func61 (by kernel_rfl) (by kernel_rfl) _ _ (HC.out _ (((Turn.refl (fun _ => False) w).alloc _).drew) (Blk.new w _ _).drew) (by go_simp) ?_; rintro v5 w5 ⟨ho5, ht5⟩; have HO5 := Lib.hid (own_low8 ho5 ((((Turn.refl (fun _ => False) w).alloc _).drew).size)); have T5 := Lib.hid ((((Turn.refl (fun _ => False) w).alloc _).drew).trans ht5); clear ho5 ht5))
    all_goals go_wp2_with fail
    all_goals go_ret
    all_goals exact ⟨_, rfl, HO5.out, T5.out⟩
end Go.Proofs.Ytpnnbfojdccfhaa
