/- Layer 5: the program's Cut and Join as the statements call them. -/
import Derived.Test.YtpccelebidiekaaSltT
namespace Go.Proofs.Ytpccelebidiekaa
open Go.RowKit
set_option linter.unusedVariables false
set_option maxRecDepth 100000

/-- A record that can be cut. -/
def Cuts (S : ByteArray) (e q : Int) : Prop := S.size ≤ 16384 ∧ 0 ≤ e ∧ e ≤ 2147483647 ∧ 0 ≤ q ∧ q ≤ 1152921504606846976 - ((pcs5 S).length : Int) + 1
theorem pcs_few (S : ByteArray) (h : S.size ≤ 16384) : 0 < (pcs5 S).length ∧ (pcs5 S).length ≤ 152 := by
  have := pcs5_count S.size S rfl
  omega
theorem cut_yes (S : ByteArray) (e q : Int) (h : Cuts S e q) (w : World) :
    Calls Try.prog 19 #[.string S, .int .i64 e, .int .i64 q] w fun r w' => ∃ b c, r = .returned (.tuple #[.slice (some ⟨b, 0, none⟩) (pcs5 S).length c, .int .i64 0]) ∧
      w'.ownsRow w.heap.size 23 5 (.slice (some ⟨b, 0, none⟩) (pcs5 S).length c) (pcs5 S).length ((mk5 (raw5 e q (pcs5 S))).flatMap scells) ∧ b < w'.heap.size ∧ (pcs5 S).length ≤ c ∧ Below w.heap.size w w' := by
  have hn := pcs_few S h.1
  have hok := ok5_raw e q S (by have := h.2.2.2.1; omega) (by have := h.2.2.2.2; omega) h.1
  rw [decide_eq_true h.2] at hok
  refine (cut5_any S h.1 e q w).mono ?_
  rintro r w' ⟨hb, ⟨h0, _⟩ | ⟨_, v, rfl, ho⟩⟩
  · rw [hok] at h0; cases h0
  · rw [len_raw5] at ho
    obtain ⟨b, c, rfl, h1, h2, h3⟩ := own_form5 ho hn.1
    exact ⟨b, c, rfl, ho, h2, h3, hb⟩
theorem cut_no (S : ByteArray) (e q : Int) (hq1 : -9223372036854775808 ≤ q) (hq2 : q ≤ 9223372036854775807) (h : ¬ Cuts S e q) : ∃ x : Int, (x != 0) = true ∧ ∀ w,
    Calls Try.prog 19 #[.string S, .int .i64 e, .int .i64 q] w fun r w' => r = .returned (.tuple #[.slice none 0 0, .int .i64 x]) ∧ Below w.heap.size w w' := by
  by_cases hS : S.size ≤ 16384
  · have hok := ok5_raw e q S hq1 hq2 hS
    rw [decide_eq_false (fun k => h ⟨hS, k⟩)] at hok
    refine ⟨2, rfl, fun w => (cut5_any S hS e q w).mono ?_⟩
    rintro r w' ⟨hb, ⟨_, h1⟩ | ⟨h0, _⟩⟩
    · exact ⟨h1, hb⟩
    · rw [hok] at h0; cases h0
  · exact ⟨5, rfl, fun w => cut5_big S (by omega) e q w⟩
/-- What an own row holds, cell by cell, also behind what makes memory above it. -/
theorem own_news5 {w w' : World} {base e size n b c B : Nat} {xs : List Value} (h : w.ownsRow base e size (.slice (some ⟨b, 0, none⟩) n c) n xs) (hb : Below B w w') (hB : b < B) : ∀ j u, xs[j]? = some u → w'.cell? ((⟨b, 0, none⟩ : Addr).add j) = some u := by
  intro j u hu
  rcases h.2 with ⟨h1, _⟩ | ⟨g, cap, cur, h1, _, hh, _, _, _, ht⟩
  · cases h1
  · injection h1 with h1 _ _
    injection h1 with h1
    injection h1 with h1 _
    subst h1
    have hBk : Blk w b e cur.toList := by unfold Blk; simpa using hh
    rw [Addr.add_mid, Nat.zero_add, (hBk.below hb hB).cell]
    rw [← ht, List.getElem?_take] at hu
    split at hu
    · exact hu
    · cases hu
theorem one_scells (R : List St) : ∀ u ∈ R.flatMap scells, u.oneCell' = true := by
  intro u hu
  obtain ⟨s, _, h⟩ := List.mem_flatMap.1 hu
  simp only [scells, List.mem_cons, List.not_mem_nil, or_false] at h
  rcases h with rfl | rfl | rfl | rfl | rfl <;> rfl
/-- Join of one record's slots, and of what does not follow them. -/
theorem join_cut (S : ByteArray) (e q : Int) (h : Cuts S e q) (T : List St) (hT : T.length ≤ 1000) (hadv : adv5 (mk5 (raw5 e q (pcs5 S)) ++ T) (pcs5 S).length = false) (A1 : Option Addr) (c1 : Nat) (hcap : (pcs5 S).length + T.length ≤ c1) (w : World)
    (h1 : Row5 w (.slice A1 ((pcs5 S).length + T.length) c1) (mk5 (raw5 e q (pcs5 S)) ++ T)) :
    Calls Try.prog 22 #[.slice A1 ((pcs5 S).length + T.length) c1] w fun r w' => ∃ b c, r = .returned (.tuple #[.slice (some ⟨b, 0, none⟩) 1 c, .int .i64 (q + ((pcs5 S).length : Int))]) ∧ b < w'.heap.size ∧ w.heap.size ≤ b ∧ w'.cell? ⟨b, 2, none⟩ = some (.string S) ∧ Below w.heap.size w w' := by
  have hn := pcs_few S h.1
  have hl : (mk5 (raw5 e q (pcs5 S))).length = (pcs5 S).length := by rw [len_mk5, len_raw5]
  have hla : (mk5 (raw5 e q (pcs5 S)) ++ T).length = (pcs5 S).length + T.length := by rw [List.length_append, hl]
  obtain ⟨hS, he0, he1, hq0, hq1⟩ := h
  have hsr := SeqRow.cut e q S ⟨hq0, by omega⟩
  have hyes : ∀ i, i < (pcs5 S).length → adv5 (mk5 (raw5 e q (pcs5 S)) ++ T) i = true := fun i hi => hsr.adv ⟨he0, he1⟩ ⟨hq0, by rw [hl]; omega⟩ T i (by rw [hl]; exact hi)
  obtain ⟨s0, hs0⟩ : ∃ s0, (mk5 (raw5 e q (pcs5 S)))[0]? = some s0 := ⟨_, List.getElem?_eq_getElem (by rw [hl]; exact hn.1)⟩
  have hs1 : (mk5 (raw5 e q (pcs5 S)) ++ T)[0]? = some s0 := by rw [List.getElem?_append_left (by rw [hl]; exact hn.1)]; exact hs0
  have hsq : s0.q = q := by have := (hsr 0 s0 hs0).2.1; omega
  have hj := join5_some (mk5 (raw5 e q (pcs5 S)) ++ T) (by rw [hla]; omega) A1 c1 (by rw [hla]; exact hcap) w (by rw [hla]; exact h1) s0 hs1 (hyes 0 hn.1)
  rw [hla] at hj
  refine hj.mono ?_
  rintro r w' ⟨k, J, hk0, hk, ha, hb, hJ, v', rfl, ho, hbl⟩
  obtain rfl : k = (pcs5 S).length := by
    rcases Nat.lt_trichotomy k (pcs5 S).length with h2 | h2 | h2
    · rw [hyes k h2] at hb; cases hb
    · exact h2
    · rw [ha _ h2] at hadv; cases hadv
  rw [List.take_append_of_le_length (by rw [hl]; exact Nat.le_refl _), List.take_of_length_le (by rw [hl]; exact Nat.le_refl _), hsq] at hJ
  have hw := jn_whole e q S (pcs5 S).length (pcs5_count S.size S rfl) ⟨hq0, by omega⟩ rfl [] []
  rw [List.append_nil] at hw
  rw [hw] at hJ
  subst hJ
  obtain ⟨b, c, he, hb1, hb2, hb3⟩ := own_form5 ho (show 0 < 1 from by decide)
  refine ⟨b, c, by rw [he]; rfl, hb2, hb1, ?_, hbl⟩
  rw [he] at ho
  exact rc_cells (l := [⟨q, q + ((pcs5 S).length : Int), S⟩]) ho 2 (show 2 < 1 * 3 from by decide)
end Go.Proofs.Ytpccelebidiekaa
