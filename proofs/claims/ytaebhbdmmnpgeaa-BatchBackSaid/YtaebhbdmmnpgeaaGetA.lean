/- The contracts of package field's readers: the number of the next bytes. -/
import Derived.Test.YtaebhbdmmnpgeaaPutA
import Derived.Deep.QuietTactic
import Derived.BigQuiet
namespace Go.Proofs.Ytaebhbdmmnpgeaa
open Go.RowKit
set_option linter.unusedVariables false

/-- A reader that NewReader made: it reads l, stands at at_, its error is er. -/
def Rdr (w : World) (p : Nat) (l : List UInt8) (at_ er : Nat) : Prop :=
  ∃ A cap, l.length ≤ cap ∧ Blk w p 151 [.bool true, .slice A l.length cap, .int .i64 at_, .int .i64 er] ∧ Rd w p A l ∧ at_ ≤ l.length ∧ l.length ≤ 140737488355000

theorem err_nil (w : World) : Calls Try.prog 143 #[.pointer none] w fun e w' => e = .returned (.int .i64 1) ∧ w = w' := by
  go_enter Try.func143, Try.ntmps143
  go_wp2
  go_ret
  exact ⟨rfl, rfl⟩
theorem err_un (p : Nat) (c1 c2 c3 : Value) (w : World) (h : Blk w p 151 [.bool false, c1, c2, c3]) : Calls Try.prog 143 #[.pointer (some ⟨p, 0, none⟩)] w fun e w' => e = .returned (.int .i64 1) ∧ w = w' := by
  have c0 : w.cell? ⟨p, 0, none⟩ = some (.bool false) := h.cell 0
  clear h
  go_enter Try.func143, Try.ntmps143
  go_wp2
  go_ret
  exact ⟨rfl, rfl⟩
theorem err_any (p : Nat) (er : Int) (c1 c2 : Value) (w : World) (h : Blk w p 151 [.bool true, c1, c2, .int .i64 er]) : Calls Try.prog 143 #[.pointer (some ⟨p, 0, none⟩)] w fun e w' => e = .returned (.int .i64 er) ∧ w = w' := by
  have h0 : w.cell? ⟨p, 0, none⟩ = some (.bool true) := h.cell 0
  have h3 : w.cell? ⟨p, 3, none⟩ = some (.int .i64 er) := h.cell 3
  clear h
  go_enter Try.func143, Try.ntmps143
  go_wp2
  go_ret
  exact ⟨rfl, rfl⟩

theorem orStep8 (V c s : Nat) (hc : c < 256) (hb : (V * 256 + c) * 2 ^ s < 256) : bits BinOp.or .u8 ((V * 2 ^ (s + 8) : Nat) : Int) ((c * 2 ^ s : Nat) : Int) = (((V * 256 + c) * 2 ^ s : Nat) : Int) := by
  have h1 : V * 2 ^ (s + 8) ≤ (V * 256 + c) * 2 ^ s := by
    rw [Nat.pow_add, Nat.mul_comm (2 ^ s), ← Nat.mul_assoc]; exact Nat.mul_le_mul_right _ (by omega)
  have h2 : c * 2 ^ s ≤ (V * 256 + c) * 2 ^ s := Nat.mul_le_mul_right _ (by omega)
  rw [u8_or_nat _ _ (by omega) (by omega), or_shift V c s hc]

set_option maxHeartbeats 400000 in
theorem getStep8 (bn br p b off at_ n cap : Nat) (V s : Nat) (er : Int) (c : UInt8) (w : World) (hs : s ≤ 0) (hb : (V * 256 + c.toNat) * 2 ^ s < 256)
    (hn : Blk w bn 5 [.int .u8 ((V * 2 ^ (s + 8) : Nat) : Int)]) (hr : Blk w br 93 [.pointer (some ⟨p, 0, none⟩)]) (hp : Blk w p 151 [.bool true, .slice (some ⟨b, off, none⟩) n cap, .int .i64 at_, .int .i64 er])
    (hc : w.cell? ⟨b, off + at_, none⟩ = some (u8v c)) (hat : at_ < n) (hn63 : n ≤ 140737488355000) :
    Calls Try.prog 146 #[.int .i64 s, .pointer (some ⟨bn, 0, none⟩), .pointer (some ⟨br, 0, none⟩)] w fun e w' => e = .returned (.tuple #[]) ∧
      Blk w' bn 5 [.int .u8 (((V * 256 + c.toNat) * 2 ^ s : Nat) : Int)] ∧ Blk w' br 93 [.pointer (some ⟨p, 0, none⟩)] ∧
      Blk w' p 151 [.bool true, .slice (some ⟨b, off, none⟩) n cap, .int .i64 (at_ + 1 : Nat), .int .i64 er] ∧ Turn (fun k => k = p ∨ k = bn) w w' := by
  have hX := orStep8 V c.toNat s c.toNat_lt hb
  obtain ⟨m, hm⟩ : ∃ m : Int, m = ((V * 2 ^ (s + 8) : Nat) : Int) := ⟨_, rfl⟩
  rw [← hm] at hX hn
  have hc2 : c.toNat * 2 ^ s ≤ (V * 256 + c.toNat) * 2 ^ s := Nat.mul_le_mul_right _ (by omega)
  have hw1 : ((c.toNat * 2 ^ s : Nat) : Int) = (c.toNat : Int) * 2 ^ s := by simp
  have hw2 : (c.toNat : Int) * 2 ^ s % 256 = (c.toNat : Int) * 2 ^ s := by rw [← hw1]; omega
  rw [hw1, ← hw2] at hX
  have hw3 : (c.toNat : Int) * 2 ^ s % 256 ≤ 255 := by omega
  have HX := Lib.hid hX
  have HW := Lib.hid hw2
  have HV := Lib.hid (show IntKind.u8.wrap ((c.toNat : Int) * 2 ^ s) = (c.toNat : Int) * 2 ^ s % 256 from IntKind.wrap_u8 _)
  have c0 : w.cell? ⟨bn, 0, none⟩ = some (.int .u8 m) := hn.cell 0
  have c1 : w.cell? ⟨br, 0, none⟩ = some (.pointer (some ⟨p, 0, none⟩)) := hr.cell 0
  have c2 : w.cell? ⟨p, 1, none⟩ = some (.slice (some ⟨b, off, none⟩) n cap) := hp.cell 1
  have c3 : w.cell? ⟨p, 2, none⟩ = some (.int .i64 at_) := hp.cell 2
  have f0 := hn.free 0
  have f1 := hp.free 2
  have hb0 : (0:Int) ≤ c.toNat := by omega
  have hb1 : (c.toNat : Int) < 256 := by have := c.toNat_lt; omega
  have hat' : (at_ : Int) < n := by omega
  unfold u8v at hc
  have hnp : p ≠ bn := by
    intro e; subst e; have := (hp.same hn).1; omega
  have hnr : br ≠ bn := by
    intro e; subst e; have := (hr.same hn).1; omega
  have hpr : br ≠ p := by
    intro e; subst e; have := (hr.same hp).1; omega
  have d1 : ∀ u, (w.setCell ⟨bn, 0, none⟩ u).cell? ⟨br, 0, none⟩ = some (.pointer (some ⟨p, 0, none⟩)) := fun u => by
    rw [World.cell?_setCell_other _ _ _ _ (by intro e; injection e with e; omega)]; exact c1
  have d2 : ∀ u, (w.setCell ⟨bn, 0, none⟩ u).cell? ⟨p, 2, none⟩ = some (.int .i64 at_) := fun u => by
    rw [World.cell?_setCell_other _ _ _ _ (by intro e; injection e with e; omega)]; exact c3
  have HN := Lib.hid hn
  have HR := Lib.hid hr
  have HP := Lib.hid hp
  have HB := Lib.hid hb
  clear hn hr hp hX hw1 hw2 hw3 hm hb hc2
  go_enter Try.func146, Try.ntmps146
  go_wp2
  go_region
  go_wp2
  all_goals go_end0
  all_goals first | rw [HX.out] | (rw [HV.out, HX.out]) | (rw [← HW.out, HX.out])
  all_goals exact ⟨rfl, ((HN.out.put 0 _).far (p := ⟨p, 2, none⟩) (Ne.symm hnp) _).drew, ((HR.out.far (p := ⟨bn, 0, none⟩) hnr _).far (p := ⟨p, 2, none⟩) hpr _).drew,
    by simpa using ((HP.out.far (p := ⟨bn, 0, none⟩) hnp _).put 2 (.int .i64 (at_ + 1 : Nat))).drew, (((Turn.refl _ w).setCell (Or.inl (Or.inr rfl)) _).setCell (Or.inl (Or.inl rfl)) _).drew⟩

theorem each8g (c1 c2 : Value) (I : Nat → World → Prop)
   (hstep : ∀ (k : Nat) (w : World), k < 1 → I k w → Calls Try.prog 146 #[.int .i64 ((8 * (1 - 1 - k) : Nat) : Int), c1, c2] w fun e w' => e = .returned (.tuple #[]) ∧ I (k+1) w')
   (w : World) (h : I 0 w) : Calls Try.prog 145 #[.func (.func 146) #[] #[c1, c2]] w fun e w' => e = .returned (.tuple #[]) ∧ I 1 w' := by
  have HS := Lib.hid hstep
  clear hstep
  go_enter Try.func145, Try.ntmps145
  go_wp2_with (go_at_call 144; refine (bytesOf8 _).mono ?_; rintro e w' ⟨rfl, rfl⟩)
  go_loopw [6] (fun i wr => ∃ k : Nat, k ≤ 1 ∧ i = .int .i64 k ∧ I k wr) (fun i _ => 1 - (intOf i).toNat)
  case atStart => exact ⟨0, by omega, rfl, h⟩
  case round =>
    obtain ⟨k, hk, rfl, hI⟩ := hrel
    by_cases hlt : k < 1
    · obtain rfl : k = 0 := by omega
      go_wp2_with (go_at_call 146; refine Calls.mono (show Calls Try.prog 146 #[.int .i64 0, c1, c2] wr _ from HS.out 0 wr hlt hI) ?_; rintro e w' ⟨rfl, hI'⟩)
      go_roundw
      case rel => exact ⟨_ + 1, by omega, by go_num, hI'⟩
      case measure => simp [intOf]
    · go_wp2
      obtain rfl : k = 1 := by omega
      go_end0
      exact ⟨rfl, hI⟩

theorem orStep16 (V c s : Nat) (hc : c < 256) (hb : (V * 256 + c) * 2 ^ s < 65536) : bits BinOp.or .u16 ((V * 2 ^ (s + 8) : Nat) : Int) ((c * 2 ^ s : Nat) : Int) = (((V * 256 + c) * 2 ^ s : Nat) : Int) := by
  have h1 : V * 2 ^ (s + 8) ≤ (V * 256 + c) * 2 ^ s := by
    rw [Nat.pow_add, Nat.mul_comm (2 ^ s), ← Nat.mul_assoc]; exact Nat.mul_le_mul_right _ (by omega)
  have h2 : c * 2 ^ s ≤ (V * 256 + c) * 2 ^ s := Nat.mul_le_mul_right _ (by omega)
  rw [u16_or_nat _ _ (by omega) (by omega), or_shift V c s hc]

theorem orStep32 (V c s : Nat) (hc : c < 256) (hb : (V * 256 + c) * 2 ^ s < 4294967296) : bits BinOp.or .u32 ((V * 2 ^ (s + 8) : Nat) : Int) ((c * 2 ^ s : Nat) : Int) = (((V * 256 + c) * 2 ^ s : Nat) : Int) := by
  have h1 : V * 2 ^ (s + 8) ≤ (V * 256 + c) * 2 ^ s := by
    rw [Nat.pow_add, Nat.mul_comm (2 ^ s), ← Nat.mul_assoc]; exact Nat.mul_le_mul_right _ (by omega)
  have h2 : c * 2 ^ s ≤ (V * 256 + c) * 2 ^ s := Nat.mul_le_mul_right _ (by omega)
  rw [u32_or_nat _ _ (by omega) (by omega), or_shift V c s hc]

set_option maxHeartbeats 400000 in
theorem getStep64 (bn br p b off at_ n cap : Nat) (V s : Nat) (er : Int) (c : UInt8) (w : World) (hs : s ≤ 56) (hb : (V * 256 + c.toNat) * 2 ^ s < 18446744073709551616)
    (hn : Blk w bn 153 [.int .u64 ((V * 2 ^ (s + 8) : Nat) : Int)]) (hr : Blk w br 93 [.pointer (some ⟨p, 0, none⟩)]) (hp : Blk w p 151 [.bool true, .slice (some ⟨b, off, none⟩) n cap, .int .i64 at_, .int .i64 er])
    (hc : w.cell? ⟨b, off + at_, none⟩ = some (u8v c)) (hat : at_ < n) (hn63 : n ≤ 140737488355000) :
    Calls Try.prog 149 #[.int .i64 s, .pointer (some ⟨bn, 0, none⟩), .pointer (some ⟨br, 0, none⟩)] w fun e w' => e = .returned (.tuple #[]) ∧
      Blk w' bn 153 [.int .u64 (((V * 256 + c.toNat) * 2 ^ s : Nat) : Int)] ∧ Blk w' br 93 [.pointer (some ⟨p, 0, none⟩)] ∧
      Blk w' p 151 [.bool true, .slice (some ⟨b, off, none⟩) n cap, .int .i64 (at_ + 1 : Nat), .int .i64 er] ∧ Turn (fun k => k = p ∨ k = bn) w w' := by
  have hX := orStep64 V c.toNat s c.toNat_lt hb
  obtain ⟨m, hm⟩ : ∃ m : Int, m = ((V * 2 ^ (s + 8) : Nat) : Int) := ⟨_, rfl⟩
  rw [← hm] at hX hn
  have hc2 : c.toNat * 2 ^ s ≤ (V * 256 + c.toNat) * 2 ^ s := Nat.mul_le_mul_right _ (by omega)
  have hw1 : ((c.toNat * 2 ^ s : Nat) : Int) = (c.toNat : Int) * 2 ^ s := by simp
  have hw2 : (c.toNat : Int) * 2 ^ s % 18446744073709551616 = (c.toNat : Int) * 2 ^ s := by rw [← hw1]; omega
  rw [hw1, ← hw2] at hX
  have hw3 : (c.toNat : Int) * 2 ^ s % 18446744073709551616 ≤ 18446744073709551615 := by omega
  have HX := Lib.hid hX
  have HW := Lib.hid hw2
  have HV := Lib.hid (show IntKind.u64.wrap ((c.toNat : Int) * 2 ^ s) = (c.toNat : Int) * 2 ^ s % 18446744073709551616 from IntKind.wrap_u64 _)
  have c0 : w.cell? ⟨bn, 0, none⟩ = some (.int .u64 m) := hn.cell 0
  have c1 : w.cell? ⟨br, 0, none⟩ = some (.pointer (some ⟨p, 0, none⟩)) := hr.cell 0
  have c2 : w.cell? ⟨p, 1, none⟩ = some (.slice (some ⟨b, off, none⟩) n cap) := hp.cell 1
  have c3 : w.cell? ⟨p, 2, none⟩ = some (.int .i64 at_) := hp.cell 2
  have f0 := hn.free 0
  have f1 := hp.free 2
  have hb0 : (0:Int) ≤ c.toNat := by omega
  have hb1 : (c.toNat : Int) < 256 := by have := c.toNat_lt; omega
  have hat' : (at_ : Int) < n := by omega
  unfold u8v at hc
  have hnp : p ≠ bn := by
    intro e; subst e; have := (hp.same hn).1; omega
  have hnr : br ≠ bn := by
    intro e; subst e; have := (hr.same hn).1; omega
  have hpr : br ≠ p := by
    intro e; subst e; have := (hr.same hp).1; omega
  have d1 : ∀ u, (w.setCell ⟨bn, 0, none⟩ u).cell? ⟨br, 0, none⟩ = some (.pointer (some ⟨p, 0, none⟩)) := fun u => by
    rw [World.cell?_setCell_other _ _ _ _ (by intro e; injection e with e; omega)]; exact c1
  have d2 : ∀ u, (w.setCell ⟨bn, 0, none⟩ u).cell? ⟨p, 2, none⟩ = some (.int .i64 at_) := fun u => by
    rw [World.cell?_setCell_other _ _ _ _ (by intro e; injection e with e; omega)]; exact c3
  have HN := Lib.hid hn
  have HR := Lib.hid hr
  have HP := Lib.hid hp
  have HB := Lib.hid hb
  clear hn hr hp hX hw1 hw2 hw3 hm hb hc2
  go_enter Try.func149, Try.ntmps149
  go_wp2
  go_region
  go_wp2
  all_goals go_end0
  all_goals first | rw [HX.out] | (rw [HV.out, HX.out]) | (rw [← HW.out, HX.out])
  all_goals exact ⟨rfl, ((HN.out.put 0 _).far (p := ⟨p, 2, none⟩) (Ne.symm hnp) _).drew, ((HR.out.far (p := ⟨bn, 0, none⟩) hnr _).far (p := ⟨p, 2, none⟩) hpr _).drew,
    by simpa using ((HP.out.far (p := ⟨bn, 0, none⟩) hnp _).put 2 (.int .i64 (at_ + 1 : Nat))).drew, (((Turn.refl _ w).setCell (Or.inl (Or.inr rfl)) _).setCell (Or.inl (Or.inl rfl)) _).drew⟩

theorem each64g (c1 c2 : Value) (I : Nat → World → Prop)
   (hstep : ∀ (k : Nat) (w : World), k < 8 → I k w → Calls Try.prog 149 #[.int .i64 ((8 * (8 - 1 - k) : Nat) : Int), c1, c2] w fun e w' => e = .returned (.tuple #[]) ∧ I (k+1) w')
   (w : World) (h : I 0 w) : Calls Try.prog 148 #[.func (.func 149) #[] #[c1, c2]] w fun e w' => e = .returned (.tuple #[]) ∧ I 8 w' := by
  have HS := Lib.hid hstep
  clear hstep
  go_enter Try.func148, Try.ntmps148
  go_wp2_with (go_at_call 147; refine (bytesOf64 _).mono ?_; rintro e w' ⟨rfl, rfl⟩)
  go_loopw [6] (fun i wr => ∃ k : Nat, k ≤ 8 ∧ i = .int .i64 k ∧ I k wr) (fun i _ => 8 - (intOf i).toNat)
  case atStart => exact ⟨0, by omega, rfl, h⟩
  case round =>
    obtain ⟨k, hk, rfl, hI⟩ := hrel
    by_cases hlt : k < 8
    · have HK := Lib.hid (show ((8 * (8 - 1 - k) : Nat) : Int) = 8 * (8 - 1 - (k : Int)) from by omega)
      go_wp2_with (go_at_call 149; have hc := HS.out k wr hlt hI; rw [HK.out] at hc; refine hc.mono ?_; clear hc; rintro e w' ⟨rfl, hI'⟩)
      go_roundw
      case rel => exact ⟨_ + 1, by omega, by go_num, hI'⟩
      case measure => simp [intOf]; omega
    · go_wp2
      obtain rfl : k = 8 := by omega
      go_end0
      exact ⟨rfl, hI⟩
end Go.Proofs.Ytaebhbdmmnpgeaa
