/- The contracts of package field's readers, fifth part: Text. -/
import Derived.Test.YtcebhoilokmhdaaGetD
namespace Go.Proofs.Ytcebhoilokmhdaa
open Go.RowKit
set_option linter.unusedVariables false

theorem text_stop (p : Nat) (l : List UInt8) (at_ er at1 er1 : Nat) (most : Int) (hv : rw_ 4 l at_ er = (0, at1, er1)) (he : er1 ≠ 0) (w : World) (h : Rdr w p l at_ er) :
    Calls Try.prog 25 #[.pointer (some ⟨p, 0, none⟩), .int .i64 most] w fun e w' => e = .returned (.string ByteArray.empty) ∧ Rdr w' p l at1 er1 ∧ Turn (· = p) w w' := by
  have HH := Lib.hid h
  have HV := Lib.hid hv
  have hne : ((er1 : Int) == 0) = false := by simp; omega
  have hne' : ((er1 : Int) != 0) = true := by simp; omega
  clear h hv
  go_enter Try.func25, Try.ntmps25
  go_wp2_with (first
    | (go_at_call 26; refine (at_any p l at_ er _ HH.out).mono ?_; rintro e w' ⟨rfl, rfl⟩)
    | (go_at_call 32; refine (get32_any p l at_ er 0 at1 er1 HV.out _ HH.out).mono ?_; rintro e w' ⟨rfl, hr, ht⟩; have HR := Lib.hid hr; clear hr)
    | (go_at_call 27; refine (er_any p l at1 er1 _ HR.out).mono ?_; rintro e w' ⟨rfl, rfl⟩))
  go_ret
  exact ⟨rfl, HR.out, ht⟩

theorem text_big (p : Nat) (l : List UInt8) (at_ n : Nat) (most : Int) (hv : rw_ 4 l at_ 0 = (n, at_ + 4, 0)) (hn : max most 0 < (n : Int)) (w : World) (h : Rdr w p l at_ 0) :
    Calls Try.prog 25 #[.pointer (some ⟨p, 0, none⟩), .int .i64 most] w fun e w' => e = .returned (.string ByteArray.empty) ∧ Rdr w' p l at_ 5 ∧ Turn (· = p) w w' := by
  have HH := Lib.hid h
  have HV := Lib.hid hv
  have hat : at_ ≤ l.length := by obtain ⟨_, _, _, _, _, h1, _⟩ := h; exact h1
  have hn1 : most < n := by omega
  have hn2 : (0 : Int) < n := by omega
  clear h hv
  go_enter Try.func25, Try.ntmps25
  go_wp2_with (first
    | (go_at_call 26; refine (at_any p l at_ 0 _ HH.out).mono ?_; rintro e w' ⟨rfl, rfl⟩)
    | (go_at_call 32; refine (get32_any p l at_ 0 n (at_ + 4) 0 HV.out _ HH.out).mono ?_; rintro e w' ⟨rfl, hr, ht⟩; have HR := Lib.hid hr; clear hr)
    | (go_at_call 27; refine (er_any p l (at_ + 4) 0 _ HR.out).mono ?_; rintro e w' ⟨rfl, rfl⟩)
    | (go_at_call 55; refine (refuse_any p l (at_ + 4) 0 at_ 5 _ HR.out hat).mono ?_; rintro e w' ⟨rfl, hr2, ht2⟩; have HR2 := Lib.hid hr2; clear hr2))
  all_goals go_ret
  all_goals exact ⟨rfl, HR2.out, ht.trans ht2⟩

set_option maxHeartbeats 800000 in
theorem text_few (p : Nat) (l : List UInt8) (at_ n : Nat) (most : Int) (hv : rw_ 4 l at_ 0 = (n, at_ + 4, 0)) (hn : (n : Int) ≤ max most 0) (hs : l.length < at_ + 4 + n) (w : World) (h : Rdr w p l at_ 0) :
    Calls Try.prog 25 #[.pointer (some ⟨p, 0, none⟩), .int .i64 most] w fun e w' => e = .returned (.string ByteArray.empty) ∧ Rdr w' p l at_ 3 ∧ Turn (· = p) w w' := by
  have HH := Lib.hid h
  have HV := Lib.hid hv
  have hat : at_ ≤ l.length := by obtain ⟨_, _, _, _, _, h1, _⟩ := h; exact h1
  have hn0 : (0 : Int) ≤ n := by omega
  have hs2 : (l.length : Int) - (at_ + 4) < n := by omega
  have hm : (if most < 0 then (0 : Int) else most) = max most 0 := by split <;> omega
  clear h hv
  go_enter Try.func25, Try.ntmps25
  go_wp2_with (first
    | (go_at_call 26; refine (at_any p l at_ 0 _ HH.out).mono ?_; rintro e w' ⟨rfl, rfl⟩)
    | (go_at_call 32; refine (get32_any p l at_ 0 n (at_ + 4) 0 HV.out _ HH.out).mono ?_; rintro e w' ⟨rfl, hr, ht⟩; obtain ⟨A, cap, hcap, hb, hA, h1, h2⟩ := hr; have c1 : w'.cell? ⟨p, 1, none⟩ = some (.slice A l.length cap) := hb.cell 1; have c2 : w'.cell? ⟨p, 2, none⟩ = some (.int .i64 (at_ + 4)) := hb.cell 2; have HB := Lib.hid hb; have HA := Lib.hid hA; clear hb hA)
    | (go_at_call 27; refine (err_any p 0 _ _ _ HB.out).mono ?_; rintro e w' ⟨rfl, rfl⟩))
  go_quiet (fail)
  have hr3 : Rdr (w'.drewN nq) p l (at_ + 4) 0 := ⟨A, cap, hcap, HB.out, HA.out, h1, h2⟩
  have HR := Lib.hid hr3
  clear hr3
  go_wp2_with (go_at_call 55; refine (refuse_any p l (at_ + 4) 0 at_ 3 _ HR.out hat).mono ?_; rintro e w2 ⟨rfl, hr2, ht2⟩; have HR2 := Lib.hid hr2; clear hr2)
  go_ret
  exact ⟨rfl, HR2.out, (ht.drewN _).trans ht2⟩

set_option maxHeartbeats 800000 in
theorem text_ok (p : Nat) (l : List UInt8) (at_ n : Nat) (most : Int) (hv : rw_ 4 l at_ 0 = (n, at_ + 4, 0)) (hn : (n : Int) ≤ max most 0) (hs : at_ + 4 + n ≤ l.length) (w : World) (h : Rdr w p l at_ 0) :
    Calls Try.prog 25 #[.pointer (some ⟨p, 0, none⟩), .int .i64 most] w fun e w' => e = .returned (.string ⟨((l.drop (at_ + 4)).take n).toArray⟩) ∧ Rdr w' p l (at_ + 4 + n) 0 ∧ Turn (· = p) w w' := by
  have HH := Lib.hid h
  have HV := Lib.hid hv
  have hat : at_ ≤ l.length := by omega
  have hl9 : l.length ≤ 140737488355000 := by obtain ⟨_, _, _, _, _, _, h2⟩ := h; exact h2
  have hn0 : (0 : Int) ≤ n := by omega
  have hs2 : ¬ ((l.length : Int) - (at_ + 4) < n) := by omega
  clear h hv
  go_enter Try.func25, Try.ntmps25
  go_wp2_with (first
    | (go_at_call 26; refine (at_any p l at_ 0 _ HH.out).mono ?_; rintro e w' ⟨rfl, rfl⟩)
    | (go_at_call 32; refine (get32_any p l at_ 0 n (at_ + 4) 0 HV.out _ HH.out).mono ?_; rintro e w' ⟨rfl, hr, ht⟩; obtain ⟨A, cap, hcap, hb, hA, h1, h2⟩ := hr; have c1 : w'.cell? ⟨p, 1, none⟩ = some (.slice A l.length cap) := hb.cell 1; have c2 : w'.cell? ⟨p, 2, none⟩ = some (.int .i64 (at_ + 4)) := hb.cell 2; have HB := Lib.hid hb; have HA := Lib.hid hA; clear hb hA)
    | (go_at_call 27; refine (err_any p 0 _ _ _ HB.out).mono ?_; rintro e w' ⟨rfl, rfl⟩))
  go_quiet (fail)
  go_wp2
  have hconv : ∀ k, (convert 22 9 (.slice (if cap = at_ + 4 then A else Option.map (fun x => ({ block := x.block, off := x.off + (at_ + 3 + 1) } : Addr)) A) n (cap - (at_ + 4)))).run Try.prog (w'.drewN k) = .ok (.string ⟨((l.drop (at_ + 4)).take n).toArray⟩) (w'.drewN k) := fun k => by
    have hlen : ((l.drop (at_ + 4)).take n).length = n := by simp; omega
    have hx : ∀ m, ((l.drop (at_ + 4)).take n).length = m → (convert 22 9 (.slice (if cap = at_ + 4 then A else Option.map (fun x => ({ block := x.block, off := x.off + (at_ + 3 + 1) } : Addr)) A) m (cap - (at_ + 4)))).run Try.prog (w'.drewN k) = .ok (.string ⟨((l.drop (at_ + 4)).take n).toArray⟩) (w'.drewN k) := by
     intro m hm
     rw [← hm]
     refine run_str _ 22 9 5 _ _ _ Try.underlying22 Try.underlying5 Try.underlying9 fun hpos => ?_
     have hpos2 : 0 < n := by rw [hlen] at hpos; omega
     rw [if_neg (by omega)]
     obtain ⟨ad, rfl, _, _, hc⟩ := HA.out (by omega)
     refine ⟨_, rfl, fun j c hj => ?_⟩
     rw [show (({ block := ad.block, off := ad.off + (at_ + 3 + 1) } : Addr).add j) = ad.add (at_ + 4 + j) from by unfold Addr.add; split <;> split <;> simp_all <;> omega]
     have hj' : l[at_ + 4 + j]? = some c := by
      rw [List.getElem?_take] at hj
      split at hj
      · rwa [List.getElem?_drop] at hj
      · cases hj
     exact hc _ _ hj'
    exact hx n hlen
  have f2 := HB.out.free 2
  go_region
  all_goals (try go_wp2)
  all_goals go_ret
  all_goals
    have K := (HB.out.drewN (nq + 1)).put 2 (.int .i64 (at_ + 4 + n : Nat))
    have T := (ht.drewN (nq + 1)).setCell (p := ⟨p, 2, none⟩) (Or.inl rfl) (.int .i64 (at_ + 4 + n : Nat))
    exact ⟨rfl, ⟨A, cap, hcap, K, (HA.out.keep fun q hq => World.cell?_setCell_other _ _ _ _ (fun e => by subst e; exact absurd hq (by simp))), hs, hl9⟩, T⟩

theorem empty_arr : (ByteArray.empty : ByteArray) = ⟨([] : List UInt8).toArray⟩ := rfl

theorem text_any (p : Nat) (l : List UInt8) (at_ er : Nat) (most : Int) (s : List UInt8) (at' er' : Nat) (hv : rt_ most l at_ er = (s, at', er')) (w : World) (h : Rdr w p l at_ er) :
    Calls Try.prog 25 #[.pointer (some ⟨p, 0, none⟩), .int .i64 most] w fun e w' => e = .returned (.string ⟨s.toArray⟩) ∧ Rdr w' p l at' er' ∧ Turn (· = p) w w' := by
  by_cases h0 : er = 0
  · subst h0
    by_cases h1 : l.length < at_ + 4
    · simp only [rt_, if_pos h1, if_true, Prod.mk.injEq] at hv
      obtain ⟨rfl, rfl, rfl⟩ := hv
      exact text_stop p l at_ 0 at_ 3 most (by simp [rw_, h1]) (by decide) w h
    · have hr : rw_ 4 l at_ 0 = (num 4 l at_, at_ + 4, 0) := by simp [rw_, h1]
      by_cases h2 : max most 0 < (num 4 l at_ : Int)
      · simp only [rt_, if_neg h1, if_pos h2, if_true, Prod.mk.injEq] at hv
        obtain ⟨rfl, rfl, rfl⟩ := hv
        exact text_big p l at_ _ most hr h2 w h
      · by_cases h3 : l.length < at_ + 4 + num 4 l at_
        · simp only [rt_, if_neg h1, if_neg h2, if_pos h3, if_true, Prod.mk.injEq] at hv
          obtain ⟨rfl, rfl, rfl⟩ := hv
          exact text_few p l at_ _ most hr (by omega) h3 w h
        · simp only [rt_, if_neg h1, if_neg h2, if_neg h3, if_true, Prod.mk.injEq] at hv
          obtain ⟨rfl, rfl, rfl⟩ := hv
          exact text_ok p l at_ _ most hr (by omega) (by omega) w h
  · simp only [rt_, if_neg h0, Prod.mk.injEq] at hv
    obtain ⟨rfl, rfl, rfl⟩ := hv
    exact text_stop p l at_ er at_ er most (by simp [rw_, h0]) h0 w h

theorem text_nil (most : Int) (w : World) : Calls Try.prog 25 #[.pointer none, .int .i64 most] w fun e w' => e = .returned (.string ByteArray.empty) ∧ Turn (fun _ => False) w w' := by
  go_enter Try.func25, Try.ntmps25
  go_wp2_with (first
    | (go_at_call 26; refine (at_nil _).mono ?_; rintro e w' ⟨rfl, rfl⟩)
    | (go_at_call 32; refine (get32_nil _).mono ?_; rintro e w' ⟨rfl, ht⟩)
    | (go_at_call 27; refine (err_nil _).mono ?_; rintro e w' ⟨rfl, rfl⟩))
  go_ret
  exact ⟨rfl, ht⟩
end Go.Proofs.Ytcebhoilokmhdaa
