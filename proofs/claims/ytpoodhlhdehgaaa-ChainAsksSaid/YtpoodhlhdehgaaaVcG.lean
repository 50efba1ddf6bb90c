/- Layer 13: the statements' own versions: an example, and versions with room behind. -/
import Derived.Test.YtpoodhlhdehgaaaVcF
namespace Go.Proofs.Ytpoodhlhdehgaaa
open Go.RowKit
set_option linter.unusedVariables false
set_option linter.unusedSimpArgs false
set_option maxRecDepth 100000

def ex13 : List Vn := [⟨7, ⟨#[]⟩, true⟩, ⟨5, ⟨#[98]⟩, false⟩, ⟨2, ⟨#[97]⟩, false⟩]
theorem example13 (w : World) :
    Calls Try.prog 23 #[] w fun e w' => e = .returned (.slice (some ⟨w.heap.size, 0, none⟩) 3 3) ∧ Vr w' (.slice (some ⟨w.heap.size, 0, none⟩) 3 3) ex13 ∧ Turn (fun _ => False) w w' := by
  have HB := Lib.hid (Blk.new w 31 (ex13.flatMap vc))
  go_enter Try.func23, Try.ntmps23
  go_wp2_with fail
  go_ret
  exact ⟨rfl, vr_of (L := ex13) HB.out.rc (by decide), (Turn.refl _ _).alloc _⟩
set_option maxHeartbeats 4000000 in
theorem own13 (L : List Vn) (v : Value) (w : World) (h : Vr w v L) (hb : L.length ≤ 100000) :
    Calls Try.prog 15 #[v] w fun e w' => ∃ g c, e = .returned (.slice (some ⟨g, 0, none⟩) L.length c) ∧ Vo w.heap.size w' (.slice (some ⟨g, 0, none⟩) (L.length + 1) c) (L ++ [⟨99, ⟨#[]⟩, false⟩]) ∧ Turn (fun _ => False) w w' := by
  have hrc : ∃ A c, v = .slice A L.length c ∧ Rc w A (L.flatMap vc) := by obtain ⟨A, c, e⟩ := h.len; subst e; exact ⟨A, c, rfl, h.rc⟩
  obtain ⟨A, c, rfl, hrc⟩ := hrc
  have HRC := Lib.hid hrc
  obtain ⟨n, hn⟩ : ∃ n, L.length = n := ⟨_, rfl⟩
  have HN := Lib.hid hn
  rw [hn] at hb ⊢
  have VO1 : Hid (Vo w.heap.size (w.alloc (.cells #[] 31)) (.slice (some ⟨w.heap.size, 0, none⟩) 0 0) []) := Lib.hid ⟨rfl, .inr ⟨w.heap.size, 0, #[], rfl, Nat.le_refl _, heap_alloc_new w _, Nat.le_refl _, by unfold maxLen; omega, by simp, by simp⟩⟩
  clear hn hrc h
  go_enter Try.func15, Try.ntmps15
  go_wp2_with (first
    | (at_builtin; refine wpList_appVs rfl _ _ rfl w.heap.size (.slice (some ⟨w.heap.size, 0, none⟩) 0 0) [] L 0 n A c rfl rfl HN.out VO1.out rfl (HRC.out.still ((Turn.refl _ _).alloc _)) (by omega) (by simp) ?_; intro A7 c7 w7 ho7 ht7; have O7 := Lib.hid (show Vo w.heap.size w7 (.slice A7 n c7) L by have h9 := ho7; rw [Nat.zero_add] at h9; exact h9); have T7 := Lib.hid (((Turn.refl (fun _ => False) w).alloc (.cells #[] 31)).trans_new ht7 (fun k hk h => by have := (own_ge9 VO1.out k h).1; omega)); rw [Nat.zero_add]; clear ho7 ht7)
    | (at_builtin; refine wpList_app1v rfl _ _ rfl w.heap.size (.slice A7 n c7) L n w7.heap.size ⟨99, ⟨#[]⟩, false⟩ rfl HN.out (O7.out.still ((Turn.refl _ _).alloc _)) rfl (Blk.new w7 31 [.int .i64 99, .string ⟨#[]⟩, .bool false]) (by omega) (by have := T7.out.size; rw [World.size_alloc]; omega) ?_; intro A8 c8 w8 ho8 ht8; obtain ⟨g8, rfl⟩ : ∃ g, A8 = some ⟨g, 0, none⟩ := (by rcases ho8.2 with ⟨e, h0⟩ | ⟨g, cap, cur, e, _⟩; simp at h0; injection e with e; exact ⟨g, e⟩); have hc8 : n + 1 ≤ c8 := (by rcases ho8.2 with ⟨e, h0⟩ | ⟨g, cap, cur, e, _, _, hn8, _⟩; simp at h0; injection e with _ _ e; subst e; rw [List.length_append, HN.out] at hn8; exact hn8); have O8 := Lib.hid ho8; have T8 := Lib.hid ((T7.out.alloc (.cells #[.int .i64 99, .string ⟨#[]⟩, .bool false] 31)).trans_new ht8 (fun k hk h => by have := (own_ge9 O7.out k h).1; omega)); have hn8 : (n : Int) ≤ (c8 : Int) := (by omega); have hn9 : ¬ (c8 : Int) < (n : Int) := (by omega); clear ho8 ht8))
  go_ret
  exact ⟨g8, c8, rfl, O8.out, T8.out⟩
end Go.Proofs.Ytpoodhlhdehgaaa
