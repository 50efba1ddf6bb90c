/- The contracts of package field's readers, third part: the calls themselves. -/
import Derived.Test.YtaebhbdmmnpgeaaGetB
namespace Go.Proofs.Ytaebhbdmmnpgeaa
open Go.RowKit
set_option linter.unusedVariables false

/-- What reading a text does: its bytes, the place, the error. -/
def rt_ (most : Int) (l : List UInt8) (at_ er : Nat) : List UInt8 × Nat × Nat :=
  if er = 0 then
    (if l.length < at_ + 4 then ([], at_, 3)
     else if max most 0 < (num 4 l at_ : Int) then ([], at_, 5)
     else if l.length < at_ + 4 + num 4 l at_ then ([], at_, 3)
     else ((l.drop (at_ + 4)).take (num 4 l at_), at_ + 4 + num 4 l at_, 0))
  else ([], at_, er)
/-- What the end of reading says. -/
def re_ (l : List UInt8) (at_ er : Nat) : Nat := if er = 0 then (if at_ < l.length then 5 else 0) else er

theorem rdr_of {w w' : World} {p at_ er : Nat} {l : List UInt8} {A : Option Addr} {cap : Nat} (hb : Blk w' p 151 [.bool true, .slice A l.length cap, .int .i64 at_, .int .i64 er]) (hA : Rd w p A l) (hp : p < w.heap.size)
    (ht : Turn (· = p) w w') (h1 : at_ ≤ l.length) (h2 : l.length ≤ 140737488355000) (hcap : l.length ≤ cap) : Rdr w' p l at_ er :=
  ⟨A, cap, hcap, hb, hA.turn ht (by omega) (fun k hk => by omega), h1, h2⟩

theorem er_any (p : Nat) (l : List UInt8) (at_ er : Nat) (w : World) (h : Rdr w p l at_ er) : Calls Try.prog 143 #[.pointer (some ⟨p, 0, none⟩)] w fun e w' => e = .returned (.int .i64 er) ∧ w = w' := by
  obtain ⟨A, cap, _, hb, _⟩ := h
  exact err_any p er _ _ w hb

theorem read8_any (p : Nat) (l : List UInt8) (at_ er v at' er' : Nat) (hv : rw_ 1 l at_ er = (v, at', er')) (w : World) (h : Rdr w p l at_ er) :
    Calls Try.prog 104 #[.pointer (some ⟨p, 0, none⟩)] w fun e w' => e = .returned (.int .u8 v) ∧ Rdr w' p l at' er' ∧ Turn (· = p) w w' := by
  obtain ⟨A, cap, hcap, hb, hA, h1, h2⟩ := h
  have hlt := hb.lt
  by_cases h0 : er = 0
  · subst h0
    by_cases hs : l.length < at_ + 1
    · simp only [rw_, if_pos hs, if_true, Prod.mk.injEq] at hv
      obtain ⟨rfl, rfl, rfl⟩ := hv
      refine (read8_short p l.length A cap at_ w hb h2 h1 hs).mono ?_
      rintro e w' ⟨he, hb', ht⟩
      exact ⟨he, rdr_of hb' hA hlt ht h1 h2 hcap, ht⟩
    · simp only [rw_, if_neg hs, if_true, Prod.mk.injEq] at hv
      obtain ⟨rfl, rfl, rfl⟩ := hv
      refine (read8_ok p l A cap at_ w hb hA h2 (by omega)).mono ?_
      rintro e w' ⟨he, hb', ht⟩
      exact ⟨he, rdr_of hb' hA hlt ht (by omega) h2 hcap, ht⟩
  · simp only [rw_, if_neg h0, Prod.mk.injEq] at hv
    obtain ⟨rfl, rfl, rfl⟩ := hv
    refine (read8_err p er h0 _ _ w hb).mono ?_
    rintro e w' ⟨he, hb', ht⟩
    exact ⟨he, ⟨A, cap, hcap, hb', hA.turn ht (by omega) (fun k hk => by omega), h1, h2⟩, ht⟩

theorem get8_any (p : Nat) (l : List UInt8) (at_ er v at' er' : Nat) (hv : rw_ 1 l at_ er = (v, at', er')) (w : World) (h : Rdr w p l at_ er) :
    Calls Try.prog 46 #[.pointer (some ⟨p, 0, none⟩)] w fun e w' => e = .returned (.int .i64 (v : Int)) ∧ Rdr w' p l at' er' ∧ Turn (· = p) w w' := by
  have hlt : (v : Int) ≤ 255 := by
    have := num_lt 1 l at_
    simp only [Nat.reducePow] at this
    unfold rw_ at hv
    split at hv
    · split at hv <;> (injection hv with e1 _; omega)
    · injection hv with e1 _; omega
  have h0 : (0 : Int) ≤ v := by omega
  have HV := Lib.hid hv
  have HH := Lib.hid h
  clear hv h
  go_enter Try.func46, Try.ntmps46
  go_wp2_with (go_at_call 104; refine (read8_any p l at_ er v at' er' HV.out _ HH.out).mono ?_; rintro e w' ⟨rfl, hr, ht⟩; have HR := Lib.hid hr; clear hr)
  go_ret
  exact ⟨rfl, HR.out, ht⟩
theorem get8_nil (w : World) : Calls Try.prog 46 #[.pointer none] w fun e w' => e = .returned (.int .i64 0) ∧ Turn (fun _ => False) w w' := by
  go_enter Try.func46, Try.ntmps46
  go_wp2_with (first
    | (go_at_call 143; refine (err_nil _).mono ?_; rintro e w' ⟨rfl, rfl⟩)
    | (go_at_call 104; go_in))
  go_ret
  exact ⟨rfl, (Turn.refl _ _).alloc _⟩

theorem read64_any (p : Nat) (l : List UInt8) (at_ er v at' er' : Nat) (hv : rw_ 8 l at_ er = (v, at', er')) (w : World) (h : Rdr w p l at_ er) :
    Calls Try.prog 105 #[.pointer (some ⟨p, 0, none⟩)] w fun e w' => e = .returned (.int .u64 v) ∧ Rdr w' p l at' er' ∧ Turn (· = p) w w' := by
  obtain ⟨A, cap, hcap, hb, hA, h1, h2⟩ := h
  have hlt := hb.lt
  by_cases h0 : er = 0
  · subst h0
    by_cases hs : l.length < at_ + 8
    · simp only [rw_, if_pos hs, if_true, Prod.mk.injEq] at hv
      obtain ⟨rfl, rfl, rfl⟩ := hv
      refine (read64_short p l.length A cap at_ w hb h2 h1 hs).mono ?_
      rintro e w' ⟨he, hb', ht⟩
      exact ⟨he, rdr_of hb' hA hlt ht h1 h2 hcap, ht⟩
    · simp only [rw_, if_neg hs, if_true, Prod.mk.injEq] at hv
      obtain ⟨rfl, rfl, rfl⟩ := hv
      refine (read64_ok p l A cap at_ w hb hA h2 (by omega)).mono ?_
      rintro e w' ⟨he, hb', ht⟩
      exact ⟨he, rdr_of hb' hA hlt ht (by omega) h2 hcap, ht⟩
  · simp only [rw_, if_neg h0, Prod.mk.injEq] at hv
    obtain ⟨rfl, rfl, rfl⟩ := hv
    refine (read64_err p er h0 _ _ w hb).mono ?_
    rintro e w' ⟨he, hb', ht⟩
    exact ⟨he, ⟨A, cap, hcap, hb', hA.turn ht (by omega) (fun k hk => by omega), h1, h2⟩, ht⟩

theorem get64_any (p : Nat) (l : List UInt8) (at_ er v at' er' : Nat) (hv : rw_ 8 l at_ er = (v, at', er')) (w : World) (h : Rdr w p l at_ er) :
    Calls Try.prog 47 #[.pointer (some ⟨p, 0, none⟩)] w fun e w' => e = .returned (.int .i64 (wrap64 (v : Int))) ∧ Rdr w' p l at' er' ∧ Turn (· = p) w w' := by
  have hlt : (v : Int) ≤ 18446744073709551615 := by
    have := num_lt 8 l at_
    simp only [Nat.reducePow] at this
    unfold rw_ at hv
    split at hv
    · split at hv <;> (injection hv with e1 _; omega)
    · injection hv with e1 _; omega
  have h0 : (0 : Int) ≤ v := by omega
  have HV := Lib.hid hv
  have HH := Lib.hid h
  clear hv h
  go_enter Try.func47, Try.ntmps47
  go_wp2_with (go_at_call 105; refine (read64_any p l at_ er v at' er' HV.out _ HH.out).mono ?_; rintro e w' ⟨rfl, hr, ht⟩; have HR := Lib.hid hr; clear hr)
  go_ret
  exact ⟨rfl, HR.out, ht⟩
theorem get64_nil (w : World) : Calls Try.prog 47 #[.pointer none] w fun e w' => e = .returned (.int .i64 0) ∧ Turn (fun _ => False) w w' := by
  go_enter Try.func47, Try.ntmps47
  go_wp2_with (first
    | (go_at_call 143; refine (err_nil _).mono ?_; rintro e w' ⟨rfl, rfl⟩)
    | (go_at_call 105; go_in))
  go_ret
  exact ⟨rfl, (Turn.refl _ _).alloc _⟩
end Go.Proofs.Ytaebhbdmmnpgeaa
