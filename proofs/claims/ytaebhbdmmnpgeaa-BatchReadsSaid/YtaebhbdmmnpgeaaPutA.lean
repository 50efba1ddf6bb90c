/- The contracts of package field's Put functions: bytes, and behind them a number's field, or a text. -/
import Derived.Test.YtaebhbdmmnpgeaaCore
import Derived.Test.YtaebhbdmmnpgeaaShelf
namespace Go.Proofs.Ytaebhbdmmnpgeaa
open Go.RowKit
set_option linter.unusedVariables false

theorem bl8 : (Lib.bitLen (255 : Int).toNat : Int) = 8 := by decide +kernel
theorem bytesOf8 (w : World) : Calls Try.prog 144 #[] w fun e w' => e = .returned (.int .i64 1) ∧ w = w' := by
  go_enter Try.func144, Try.ntmps144
  go_wp2_with (go_at_call 162; refine (Try.bits_Len64 255 _ (by omega) (by omega)).mono ?_; rintro e w' ⟨rfl, rfl⟩; rw [bl8])
  go_ret
  exact ⟨rfl, rfl⟩

theorem byte8 (n d : Int) (i : Nat) (hi : i < 1) (hd : d = 8 * (1 - 1 - (i : Int))) : Value.int .u8 (n / 2 ^ d.toNat % 256) = u8v (fbyte 1 n i) := by
  rw [u8v_fbyte, show d.toNat = 8 * (1 - 1 - i) from by omega]

set_option maxHeartbeats 400000 in
theorem putStep8 (g bo bn cap : Nat) (n : Int) (l : List UInt8) (i : Nat) (hi : i < 1) (d : Int) (hd0 : d = 8 * (1 - 1 - (i : Int))) (w : World) (hn0 : 0 ≤ n) (hn1 : n ≤ 255)
    (hrow : Row w 5 g cap l) (hroom : l.length < cap) (ho : Blk w bo 95 [.slice (some ⟨g, 0, none⟩) l.length cap]) (hb : Blk w bn 5 [.int .u8 n]) (hgo : g ≠ bo) :
    Calls Try.prog 167 #[.int .i64 d, .pointer (some ⟨bo, 0, none⟩), .pointer (some ⟨bn, 0, none⟩)] w fun e w' => e = .returned (.tuple #[]) ∧
      Row w' 5 g cap (l ++ [fbyte 1 n i]) ∧ Blk w' bo 95 [.slice (some ⟨g, 0, none⟩) (l.length + 1) cap] ∧ Turn (fun j => j = g ∨ j = bo) w w' := by
  have hd1 : 0 ≤ d := by omega
  have hd2 : d ≤ 0 := by omega
  have HX := Lib.hid (byte8 n d i hi hd0)
  clear hd0
  obtain ⟨old, hsp⟩ := hrow.spare hroom
  have hc1 : w.cell? ⟨bo, 0, none⟩ = some (.slice (some ⟨g, 0, none⟩) l.length cap) := ho.cell 0
  have hc2 : w.cell? ⟨bn, 0, none⟩ = some (.int .u8 n) := hb.cell 0
  have hf1 := ho.free 0
  have hf2 := hrow.free l.length
  have hc3 : ∀ u, (w.setCell ⟨g, l.length, none⟩ u).cell? ⟨bo, 0, none⟩ = some (.slice (some ⟨g, 0, none⟩) l.length cap) := fun u => by
    rw [World.cell?_setCell_other _ _ _ _ (by intro e; injection e with e; omega)]; exact hc1
  have hm : l.length + 1 ≤ cap := hroom
  have hlg := hrow.lt
  have hlo := ho.lt
  have hlb := hb.lt
  have HR := Lib.hid hrow
  have HO := Lib.hid ho
  clear hrow ho hb
  go_enter Try.func167, Try.ntmps167
  go_wp2
  go_region
  all_goals go_end0
  all_goals
    have hp : n / 2 ^ d.toNat % 256 = n / 2 ^ d.toNat := by
      have e : d.toNat = 0 := by omega
      rw [e]; simp; omega
    rw [hp] at HX
    rw [HX.out]
  all_goals refine ⟨rfl, (((HR.out.push hroom _).far (p := ⟨bo, 0, none⟩) hgo _).alloc _).drew, (((HO.out.far (p := ⟨g, l.length, none⟩) (Ne.symm hgo) _).put 0 _).alloc _).drew, ((((Turn.refl _ w).setCell (Or.inl (Or.inl rfl)) _).setCell (Or.inl (Or.inr rfl)) _).alloc _).drew⟩

theorem each8p (c1 c2 : Value) (I : Nat → World → Prop)
   (hstep : ∀ (k : Nat) (d : Int) (w : World), k < 1 → I k w → d = 8 * (1 - 1 - (k:Int)) → Calls Try.prog 167 #[.int .i64 d, c1, c2] w fun e w' => e = .returned (.tuple #[]) ∧ I (k+1) w')
   (w : World) (h : I 0 w) : Calls Try.prog 145 #[.func (.func 167) #[] #[c1, c2]] w fun e w' => e = .returned (.tuple #[]) ∧ I 1 w' := by
  have HS := Lib.hid hstep
  clear hstep
  go_enter Try.func145, Try.ntmps145
  go_wp2_with (go_at_call 144; refine (bytesOf8 _).mono ?_; rintro e w' ⟨rfl, rfl⟩)
  go_loopw [6] (fun i wr => ∃ k : Nat, k ≤ 1 ∧ i = .int .i64 k ∧ I k wr) (fun i _ => 1 - (intOf i).toNat)
  case atStart => exact ⟨0, by omega, rfl, h⟩
  case round =>
    obtain ⟨k, hk, rfl, hI⟩ := hrel
    by_cases hlt : k < 1
    · go_wp2_with (go_at_call 167; refine (HS.out k _ _ hlt hI (by omega)).mono ?_; rintro e w' ⟨rfl, hI'⟩)
      go_roundw
      case rel => exact ⟨k + 1, by omega, by go_num, hI'⟩
      case measure => simp [intOf]; omega
    · go_wp2
      obtain rfl : k = 1 := by omega
      go_end0
      exact ⟨rfl, hI⟩

theorem bl16 : (Lib.bitLen (65535 : Int).toNat : Int) = 16 := by decide +kernel
theorem byte16 (n d : Int) (i : Nat) (hi : i < 2) (hd : d = 8 * (2 - 1 - (i : Int))) : Value.int .u8 (n / 2 ^ d.toNat % 256) = u8v (fbyte 2 n i) := by
  rw [u8v_fbyte, show d.toNat = 8 * (2 - 1 - i) from by omega]

theorem bl32 : (Lib.bitLen (4294967295 : Int).toNat : Int) = 32 := by decide +kernel
theorem byte32 (n d : Int) (i : Nat) (hi : i < 4) (hd : d = 8 * (4 - 1 - (i : Int))) : Value.int .u8 (n / 2 ^ d.toNat % 256) = u8v (fbyte 4 n i) := by
  rw [u8v_fbyte, show d.toNat = 8 * (4 - 1 - i) from by omega]

theorem bl64 : (Lib.bitLen (18446744073709551615 : Int).toNat : Int) = 64 := by decide +kernel
theorem bytesOf64 (w : World) : Calls Try.prog 147 #[] w fun e w' => e = .returned (.int .i64 8) ∧ w = w' := by
  go_enter Try.func147, Try.ntmps147
  go_wp2_with (go_at_call 162; refine (Try.bits_Len64 18446744073709551615 _ (by omega) (by omega)).mono ?_; rintro e w' ⟨rfl, rfl⟩; rw [bl64])
  go_ret
  exact ⟨rfl, rfl⟩

theorem byte64 (n d : Int) (i : Nat) (hi : i < 8) (hd : d = 8 * (8 - 1 - (i : Int))) : Value.int .u8 (n / 2 ^ d.toNat % 256) = u8v (fbyte 8 n i) := by
  rw [u8v_fbyte, show d.toNat = 8 * (8 - 1 - i) from by omega]

set_option maxHeartbeats 400000 in
theorem putStep64 (g bo bn cap : Nat) (n : Int) (l : List UInt8) (i : Nat) (hi : i < 8) (d : Int) (hd0 : d = 8 * (8 - 1 - (i : Int))) (w : World) (hn0 : 0 ≤ n) (hn1 : n ≤ 18446744073709551615)
    (hrow : Row w 5 g cap l) (hroom : l.length < cap) (ho : Blk w bo 95 [.slice (some ⟨g, 0, none⟩) l.length cap]) (hb : Blk w bn 153 [.int .u64 n]) (hgo : g ≠ bo) :
    Calls Try.prog 166 #[.int .i64 d, .pointer (some ⟨bo, 0, none⟩), .pointer (some ⟨bn, 0, none⟩)] w fun e w' => e = .returned (.tuple #[]) ∧
      Row w' 5 g cap (l ++ [fbyte 8 n i]) ∧ Blk w' bo 95 [.slice (some ⟨g, 0, none⟩) (l.length + 1) cap] ∧ Turn (fun j => j = g ∨ j = bo) w w' := by
  have hd1 : 0 ≤ d := by omega
  have hd2 : d ≤ 56 := by omega
  have HX := Lib.hid (byte64 n d i hi hd0)
  clear hd0
  obtain ⟨old, hsp⟩ := hrow.spare hroom
  have hc1 : w.cell? ⟨bo, 0, none⟩ = some (.slice (some ⟨g, 0, none⟩) l.length cap) := ho.cell 0
  have hc2 : w.cell? ⟨bn, 0, none⟩ = some (.int .u64 n) := hb.cell 0
  have hf1 := ho.free 0
  have hf2 := hrow.free l.length
  have hc3 : ∀ u, (w.setCell ⟨g, l.length, none⟩ u).cell? ⟨bo, 0, none⟩ = some (.slice (some ⟨g, 0, none⟩) l.length cap) := fun u => by
    rw [World.cell?_setCell_other _ _ _ _ (by intro e; injection e with e; omega)]; exact hc1
  have hm : l.length + 1 ≤ cap := hroom
  have hlg := hrow.lt
  have hlo := ho.lt
  have hlb := hb.lt
  have HR := Lib.hid hrow
  have HO := Lib.hid ho
  clear hrow ho hb
  go_enter Try.func166, Try.ntmps166
  go_wp2
  go_region
  all_goals go_end0
  all_goals rw [HX.out]
  all_goals refine ⟨rfl, (((HR.out.push hroom _).far (p := ⟨bo, 0, none⟩) hgo _).alloc _).drew, (((HO.out.far (p := ⟨g, l.length, none⟩) (Ne.symm hgo) _).put 0 _).alloc _).drew, ((((Turn.refl _ w).setCell (Or.inl (Or.inl rfl)) _).setCell (Or.inl (Or.inr rfl)) _).alloc _).drew⟩

theorem each64p (c1 c2 : Value) (I : Nat → World → Prop)
   (hstep : ∀ (k : Nat) (d : Int) (w : World), k < 8 → I k w → d = 8 * (8 - 1 - (k:Int)) → Calls Try.prog 166 #[.int .i64 d, c1, c2] w fun e w' => e = .returned (.tuple #[]) ∧ I (k+1) w')
   (w : World) (h : I 0 w) : Calls Try.prog 148 #[.func (.func 166) #[] #[c1, c2]] w fun e w' => e = .returned (.tuple #[]) ∧ I 8 w' := by
  have HS := Lib.hid hstep
  clear hstep
  go_enter Try.func148, Try.ntmps148
  go_wp2_with (go_at_call 147; refine (bytesOf64 _).mono ?_; rintro e w' ⟨rfl, rfl⟩)
  go_loopw [6] (fun i wr => ∃ k : Nat, k ≤ 8 ∧ i = .int .i64 k ∧ I k wr) (fun i _ => 8 - (intOf i).toNat)
  case atStart => exact ⟨0, by omega, rfl, h⟩
  case round =>
    obtain ⟨k, hk, rfl, hI⟩ := hrel
    by_cases hlt : k < 8
    · go_wp2_with (go_at_call 166; refine (HS.out k _ _ hlt hI (by omega)).mono ?_; rintro e w' ⟨rfl, hI'⟩)
      go_roundw
      case rel => exact ⟨k + 1, by omega, by go_num, hI'⟩
      case measure => simp [intOf]; omega
    · go_wp2
      obtain rfl : k = 8 := by omega
      go_end0
      exact ⟨rfl, hI⟩
end Go.Proofs.Ytaebhbdmmnpgeaa
