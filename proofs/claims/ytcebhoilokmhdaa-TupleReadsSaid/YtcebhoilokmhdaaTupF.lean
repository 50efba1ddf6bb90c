/- Layer 2: the law's examples (lives). -/
import Derived.Test.YtcebhoilokmhdaaTupE
namespace Go.Proofs.Ytcebhoilokmhdaa
open Go.RowKit
set_option linter.unusedVariables false

/-- The cells of parts. -/
def pcs : List Pt → List Value
  | [] => []
  | p :: l => .int .i64 p.k :: .int .i64 p.n :: .string p.s :: pcs l
theorem pcs_at (ps : List Pt) : ∀ (j : Nat) (p : Pt), ps[j]? = some p → (pcs ps)[j * 3]? = some (.int .i64 p.k) ∧ (pcs ps)[j * 3 + 1]? = some (.int .i64 p.n) ∧ (pcs ps)[j * 3 + 2]? = some (.string p.s) := by
  induction ps with
  | nil => intro j p h; simp at h
  | cons q ps ih =>
    intro j p h
    cases j with
    | zero => simp at h; subst h; exact ⟨rfl, rfl, rfl⟩
    | succ j =>
      have := ih j p (by simpa using h)
      rw [show (j + 1) * 3 = j * 3 + 1 + 1 + 1 from by omega]
      simpa [pcs] using this
theorem pcs_app (a b : List Pt) : pcs (a ++ b) = pcs a ++ pcs b := by
  induction a with
  | nil => rfl
  | cons p a ih => simp [pcs, ih]
theorem len_pcs (a : List Pt) : (pcs a).length = a.length * 3 := by
  induction a with
  | nil => rfl
  | cons p a ih => simp [pcs, ih]; omega
def fine (ps : List Pt) : Prop := (∀ p ∈ ps, p.s.size ≤ 140737488351232 ∧ -9223372036854775808 ≤ p.n ∧ p.n ≤ 9223372036854775807) ∧ ps.length ≤ 140737488351232
theorem parts_blk {w : World} {g t B cap : Nat} {ps : List Pt} (h : Blk w g t (pcs ps)) (hB : g < B) (hf : fine ps) (hcap : ps.length ≤ cap := by decide) : Parts w B (.slice (some ⟨g, 0, none⟩) ps.length cap) ps := by
  refine ⟨_, cap, rfl, fun _ => ⟨_, rfl, rfl, hB, fun j p hj => ?_⟩, hf.1, hf.2, hcap⟩
  obtain ⟨h0, h1, h2⟩ := pcs_at ps j p hj
  have hh := h.cell
  simp only [Nat.zero_add]
  exact ⟨(hh _).trans h0, (hh _).trans h1, (hh _).trans h2⟩

theorem text_new (s : ByteArray) (w : World) : Calls Try.prog 62 #[.string s] w fun e w' => e = .returned (.agg #[.int .i64 1, .int .i64 0, .string s]) ∧ w' = w.alloc (.cells #[.int .i64 1, .int .i64 0, .string s] 88) := by
  go_enter Try.func62, Try.ntmps62
  go_wp2
  exact bodyPost_ret (v := .agg #[.int .i64 1, .int .i64 0, .string s]) (by simp [results, Try.results62, go_sem]) rfl ⟨rfl, rfl⟩
theorem up_new (n : Int) (w : World) : Calls Try.prog 63 #[.int .i64 n] w fun e w' => e = .returned (.agg #[.int .i64 2, .int .i64 n, .string ⟨#[]⟩]) ∧ w' = w.alloc (.cells #[.int .i64 2, .int .i64 n, .string ⟨#[]⟩] 88) := by
  go_enter Try.func63, Try.ntmps63
  go_wp2
  exact bodyPost_ret (v := .agg #[.int .i64 2, .int .i64 n, .string ⟨#[]⟩]) (by simp [results, Try.results63, go_sem]) rfl ⟨rfl, rfl⟩
theorem down_new (n : Int) (w : World) : Calls Try.prog 60 #[.int .i64 n] w fun e w' => e = .returned (.agg #[.int .i64 3, .int .i64 n, .string ⟨#[]⟩]) ∧ w' = w.alloc (.cells #[.int .i64 3, .int .i64 n, .string ⟨#[]⟩] 88) := by
  go_enter Try.func60, Try.ntmps60
  go_wp2
  exact bodyPost_ret (v := .agg #[.int .i64 3, .int .i64 n, .string ⟨#[]⟩]) (by simp [results, Try.results60, go_sem]) rfl ⟨rfl, rfl⟩

theorem is_true (S : ByteArray) (v : Value) (l : List Pt) (w : World) (hl : Parts w w.heap.size v l) (hc : chk l = 0) (hS : S = ⟨(kby l).toArray⟩) :
    Calls Try.prog 61 #[.string S, v] w fun e w' => e = .returned (.bool true) ∧ Below w.heap.size w w' := by
  have HL := Lib.hid hl
  have HC := Lib.hid hc
  have HS := Lib.hid hS
  clear hl hc hS
  go_enter Try.func61, Try.ntmps61
  go_wp2_with (go_at_call 35; refine (encode_ok v l _ HL.out HC.out S HS.out).mono ?_; rintro e w1 ⟨rfl, hb⟩)
  go_ret
  exact ⟨rfl, hb⟩

def eA : List Pt := [⟨1, 0, ⟨#[97]⟩⟩, ⟨2, 1, ⟨#[]⟩⟩]
def eB : List Pt := [⟨3, 1, ⟨#[]⟩⟩]
def eC : List Pt := [⟨1, 0, ⟨#[0]⟩⟩]
def eD : List Pt := [⟨3, 2, ⟨#[]⟩⟩]
theorem kA : (⟨#[2, 97, 0, 1, 3, 128, 0, 0, 0, 0, 0, 0, 1]⟩ : ByteArray) = ⟨(kby eA).toArray⟩ := by
  rw [show kby eA = [2, 97, 0, 1, 3, 128, 0, 0, 0, 0, 0, 0, 1] from by decide +kernel]
theorem kB : (⟨#[4, 127, 255, 255, 255, 255, 255, 255, 254]⟩ : ByteArray) = ⟨(kby eB).toArray⟩ := by
  rw [show kby eB = [4, 127, 255, 255, 255, 255, 255, 255, 254] from by decide +kernel]
theorem kC : (⟨#[2, 0, 255, 0, 1]⟩ : ByteArray) = ⟨(kby eC).toArray⟩ := by
  rw [show kby eC = [2, 0, 255, 0, 1] from by decide +kernel]
theorem cA : chk eA = 0 := by decide +kernel
theorem cB : chk eB = 0 := by decide +kernel
theorem cC : chk eC = 0 := by decide +kernel
theorem cD : chk eD = 0 := by decide +kernel
theorem cmpDB : cmpA eD eB = -1 := by
  unfold cmpA
  rw [if_pos ⟨cD, cB⟩]
  unfold eD eB cmpL cp cs
  simp only [ByteArray.toList_eq]
  decide +kernel
theorem fine_of (ps : List Pt) (h : ps.all (fun p => decide (p.s.size ≤ 140737488351232) && decide (-9223372036854775808 ≤ p.n) && decide (p.n ≤ 9223372036854775807)) = true) (h2 : ps.length ≤ 1000) : fine ps := by
  refine ⟨fun p hp => ?_, by omega⟩
  have := List.all_eq_true.1 h p hp
  simp only [Bool.and_eq_true, decide_eq_true_eq] at this
  exact ⟨this.1.1, this.1.2, this.2⟩
theorem fA : fine eA := fine_of _ (by decide +kernel) (by decide)
theorem fB : fine eB := fine_of _ (by decide +kernel) (by decide)
theorem fC : fine eC := fine_of _ (by decide +kernel) (by decide)
theorem fD : fine eD := fine_of _ (by decide +kernel) (by decide)

set_option maxRecDepth 100000 in
set_option maxHeartbeats 1000000 in
theorem lives2_any (w : World) : Calls Try.prog 34 #[] w fun e w' => e = .returned (.bool true) ∧ Below w.heap.size w w' := by
  go_enter Try.func34, Try.ntmps34
  go_wp2_with (first
    | (go_at_call 62; refine (text_new _ _).mono ?_; rintro e w' ⟨rfl, rfl⟩)
    | (go_at_call 63; refine (up_new _ _).mono ?_; rintro e w' ⟨rfl, rfl⟩)
    | (go_at_call 60; refine (down_new _ _).mono ?_; rintro e w' ⟨rfl, rfl⟩)
    | (go_at_call 43; refine (compare_any _ _ eD eB _ (parts_blk (((Blk.new_ _ _ _ (by simp)).alloc _).alloc _) (by simp) fD) (parts_blk (Blk.new_ _ _ _ (by simp)) (by simp) fB)).mono ?_; rintro e w1 ⟨rfl, hb1⟩; rw [cmpDB, show cmpE eD eB = 0 from by unfold cmpE; rw [if_pos cD, cB]])
    | (go_at_call_of 61 (Value.string { data := #[2, 97, 0, 1, 3, 128, 0, 0, 0, 0, 0, 0, 1] }); refine (is_true _ _ eA _ (parts_blk (Blk.new_ _ _ _ (by simp)) (by simp) fA) cA kA).mono ?_; rintro e w2 ⟨rfl, hb2⟩)
    | (go_at_call_of 61 (Value.string { data := #[4, 127, 255, 255, 255, 255, 255, 255, 254] }); refine (is_true _ _ eB _ (parts_blk (Blk.new_ _ _ _ (by simp)) (by simp) fB) cB kB).mono ?_; rintro e w3 ⟨rfl, hb3⟩)
    | (go_at_call_of 61 (Value.string { data := #[2, 0, 255, 0, 1] }); refine (is_true _ _ eC _ (parts_blk (Blk.new_ _ _ _ (by simp)) (by simp) fC) cC kC).mono ?_; rintro e w4 ⟨rfl, hb4⟩))
  go_ret
  have z1 := hb1.size
  have z2 := hb2.size
  have z3 := hb3.size
  simp at z1 z2 z3
  refine ⟨rfl, ?_⟩
  refine Below.trans ?_ (hb4.mono (by simp; omega))
  refine ((Below.trans ?_ (hb3.mono (by simp; omega))).alloc (by omega) _).alloc (by simp; omega) _
  refine ((Below.trans ?_ (hb2.mono (by simp; omega))).alloc (by omega) _).alloc (by simp; omega) _
  refine (((Below.trans ?_ (hb1.mono (by simp; omega))).alloc (by omega) _).alloc (by simp; omega) _).alloc (by simp; omega) _
  exact ((((Below.refl _ _).alloc (Nat.le_refl _) _).alloc (by simp) _).alloc (by simp; omega) _).alloc (by simp; omega) _
end Go.Proofs.Ytcebhoilokmhdaa
