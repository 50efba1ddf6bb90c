/- The contracts of package field's readers, second part: readWord and the calls over it. -/
import Derived.Test.YtaebhbdmmnpgeaaGetA
namespace Go.Proofs.Ytaebhbdmmnpgeaa
open Go.RowKit
set_option linter.unusedVariables false

/-- What reading k bytes does: the number, the place, the error. -/
def rw_ (k : Nat) (l : List UInt8) (at_ er : Nat) : Nat × Nat × Nat :=
  if er = 0 then (if l.length < at_ + k then (0, at_, 3) else (num k l at_, at_ + k, 0)) else (0, at_, er)
set_option maxHeartbeats 400000 in
theorem read8_err (p : Nat) (er : Nat) (he : er ≠ 0) (c1 c2 : Value) (w : World) (h : Blk w p 151 [.bool true, c1, c2, .int .i64 er]) :
    Calls Try.prog 104 #[.pointer (some ⟨p, 0, none⟩)] w fun e w' => e = .returned (.int .u8 0) ∧ Blk w' p 151 [.bool true, c1, c2, .int .i64 er] ∧ Turn (· = p) w w' := by
  have H := Lib.hid h
  have hne : ((er : Int) == 0) = false := by simp; omega
  have hne' : ((er : Int) != 0) = true := by simp; omega
  clear h
  go_enter Try.func104, Try.ntmps104
  go_wp2_with (go_at_call 143; refine (err_any p er c1 c2 _ (H.out.alloc _)).mono ?_; rintro e w' ⟨rfl, rfl⟩)
  go_ret
  exact ⟨rfl, H.out.alloc _, (Turn.refl _ _).alloc _⟩

set_option maxHeartbeats 800000 in
theorem read8_ok (p : Nat) (l : List UInt8) (A : Option Addr) (cap at_ : Nat) (w : World) (h : Blk w p 151 [.bool true, .slice A l.length cap, .int .i64 at_, .int .i64 0]) (hA : Rd w p A l)
    (hl : l.length ≤ 140737488355000) (hk : at_ + 1 ≤ l.length) :
    Calls Try.prog 104 #[.pointer (some ⟨p, 0, none⟩)] w fun e w' => e = .returned (.int .u8 (num 1 l at_)) ∧
      Blk w' p 151 [.bool true, .slice A l.length cap, .int .i64 (at_ + 1 : Nat), .int .i64 0] ∧ Turn (· = p) w w' := by
  obtain ⟨ad, rfl, hsp, hbk, hc⟩ := hA (by omega)
  obtain ⟨b, off, spot⟩ := ad
  obtain rfl : spot = none := hsp
  have hadd : ∀ j, (⟨b, off, none⟩ : Addr).add j = ⟨b, off + j, none⟩ := fun j => by unfold Addr.add; split <;> simp_all
  have hlt := h.lt
  have x1 : ∀ o, (w.alloc o).cell? ⟨p, 1, none⟩ = some (.slice (some ⟨b, off, none⟩) l.length cap) := fun o => (h.alloc o).cell 1
  have x2 : ∀ o, (w.alloc o).cell? ⟨p, 2, none⟩ = some (.int .i64 at_) := fun o => (h.alloc o).cell 2
  have H := Lib.hid h
  have HC := Lib.hid hc
  have hk1 : (at_ : Int) + 1 ≤ l.length := by omega
  have hk2 : ¬ ((l.length : Int) - at_ < 1) := by omega
  clear h hA hc
  go_enter Try.func104, Try.ntmps104
  go_wp2_with (go_at_call 143; refine (err_any p 0 _ _ _ (H.out.alloc _)).mono ?_; rintro e w' ⟨rfl, rfl⟩)
  go_quiet ((go_at_call 144; exact Calls.quiet_of_same ((bytesOf8 _).mono fun _ _ h => ⟨h.1, h.2.symm⟩)))
  go_wp2_with fail
  refine (each8g _ _ (fun i w'' => Blk w'' w.heap.size 93 [.pointer (some ⟨p, 0, none⟩)] ∧ Blk w'' (w.heap.size + 1) 5 [.int .u8 ((num i l at_ * 2 ^ (8 * (1 - i)) : Nat) : Int)] ∧
    Blk w'' p 151 [.bool true, .slice (some ⟨b, off, none⟩) l.length cap, .int .i64 (at_ + i : Nat), .int .i64 0] ∧ Turn (· = p) w w'') ?_ _ ?_).mono ?_
  · rintro i w2 hi ⟨hr, hn, hp, ht⟩
    have hci := (ht.block b (by omega) (by omega))
    have hcell : w2.cell? ⟨b, off + (at_ + i), none⟩ = some (u8v (l[at_ + i]'(by omega))) := by
      rw [World.cell?_of_block (w := w) hci, ← hadd]
      exact HC.out _ _ (List.getElem?_eq_getElem _)
    have hn' := num_succ i l at_ (by omega)
    have hlt' := num_lt (i + 1) l at_
    have he : 8 * (1 - i) = 8 * (1 - 1 - i) + 8 := by omega
    rw [he] at hn
    have hbound : (num i l at_ * 256 + (l[at_ + i]'(by omega)).toNat) * 2 ^ (8 * (1 - 1 - i)) < 256 := by
      rw [← hn']
      have h1 : num (i + 1) l at_ * 2 ^ (8 * (1 - 1 - i)) < 256 ^ (i + 1) * 2 ^ (8 * (1 - 1 - i)) := Nat.mul_lt_mul_of_pos_right hlt' (Nat.two_pow_pos _)
      have h2 : 256 ^ (i + 1) * 2 ^ (8 * (1 - 1 - i)) = 256 := by
        rw [show (256 : Nat) = 2 ^ 8 from rfl, ← Nat.pow_mul, ← Nat.pow_add, show 8 * (i + 1) + 8 * (1 - 1 - i) = 8 from by omega]
      omega
    refine (getStep8 (w.heap.size + 1) w.heap.size p b off (at_ + i) l.length cap (num i l at_) (8 * (1 - 1 - i)) 0 (l[at_ + i]'(by omega)) w2 (by omega) hbound hn hr hp hcell (by omega) hl).mono ?_
    rintro e w3 ⟨rfl, hn2, hr2, hp2, ht2⟩
    refine ⟨rfl, hr2, ?_, by simpa [Nat.add_assoc] using hp2, ht.trans_new ht2 (by intro k hk hk2; omega)⟩
    rw [hn', show 1 - (i + 1) = 1 - 1 - i from by omega]; exact hn2
  · refine ⟨?_, ?_, ?_, ?_⟩
    · exact ((Blk.new w 93 [.pointer (some ⟨p, 0, none⟩)]).drewN _).alloc _
    · rw [num_zero]
      exact Blk.new_ _ 5 [.int .u8 0] (by rw [size_drewN]; simp)
    · exact ((H.out.alloc _).drewN _).alloc _
    · exact (((Turn.refl _ _).alloc _).drewN _).alloc _
  · rintro e w4 ⟨rfl, hr, hn, hp, ht⟩
    have hc4 : w4.cell? ⟨w.heap.size + 1, 0, none⟩ = some (.int .u8 (num 1 l at_)) := by
      have := hn.cell 0
      simpa using this
    have HP := Lib.hid hp
    clear hr hn hp
    go_wp2
    go_ret
    exact ⟨rfl, HP.out, ht⟩

set_option maxHeartbeats 800000 in
theorem read8_short (p : Nat) (n : Nat) (A : Option Addr) (cap at_ : Nat) (w : World) (h : Blk w p 151 [.bool true, .slice A n cap, .int .i64 at_, .int .i64 0])
    (hl : n ≤ 140737488355000) (hat : at_ ≤ n) (hk : n < at_ + 1) :
    Calls Try.prog 104 #[.pointer (some ⟨p, 0, none⟩)] w fun e w' => e = .returned (.int .u8 0) ∧
      Blk w' p 151 [.bool true, .slice A n cap, .int .i64 at_, .int .i64 3] ∧ Turn (· = p) w w' := by
  have hlt := h.lt
  have x1 : ∀ o, (w.alloc o).cell? ⟨p, 1, none⟩ = some (.slice A n cap) := fun o => (h.alloc o).cell 1
  have x2 : ∀ o, (w.alloc o).cell? ⟨p, 2, none⟩ = some (.int .i64 at_) := fun o => (h.alloc o).cell 2
  have x3 : ∀ o, (w.alloc o).cell? ⟨p, 3, none⟩ = some (.int .i64 0) := fun o => (h.alloc o).cell 3
  have x4 : ∀ o, (w.alloc o).frozen? ⟨p, 3, none⟩ = false := fun o => (h.alloc o).free 3
  have y3 : w.cell? ⟨p, 3, none⟩ = some (.int .i64 0) := h.cell 3
  have y4 : w.frozen? ⟨p, 3, none⟩ = false := h.free 3
  have H := Lib.hid h
  have hk2 : (n : Int) - at_ < 1 := by omega
  clear h
  go_enter Try.func104, Try.ntmps104
  go_wp2_with (go_at_call 143; refine (err_any p 0 _ _ _ (H.out.alloc _)).mono ?_; rintro e w' ⟨rfl, rfl⟩)
  go_quiet ((go_at_call 144; exact Calls.quiet_of_same ((bytesOf8 _).mono fun _ _ h => ⟨h.1, h.2.symm⟩)))
  go_wp2
  go_ret
  refine ⟨rfl, ?_, ?_⟩
  · exact ((H.out.alloc _).drewN _).put 3 (.int .i64 3)
  · exact (((Turn.refl (· = p) w).alloc _).drewN _).setCell (p := ⟨p, 3, none⟩) (Or.inl rfl) (.int .i64 3)

set_option maxHeartbeats 400000 in
theorem read64_err (p : Nat) (er : Nat) (he : er ≠ 0) (c1 c2 : Value) (w : World) (h : Blk w p 151 [.bool true, c1, c2, .int .i64 er]) :
    Calls Try.prog 105 #[.pointer (some ⟨p, 0, none⟩)] w fun e w' => e = .returned (.int .u64 0) ∧ Blk w' p 151 [.bool true, c1, c2, .int .i64 er] ∧ Turn (· = p) w w' := by
  have H := Lib.hid h
  have hne : ((er : Int) == 0) = false := by simp; omega
  have hne' : ((er : Int) != 0) = true := by simp; omega
  clear h
  go_enter Try.func105, Try.ntmps105
  go_wp2_with (go_at_call 143; refine (err_any p er c1 c2 _ (H.out.alloc _)).mono ?_; rintro e w' ⟨rfl, rfl⟩)
  go_ret
  exact ⟨rfl, H.out.alloc _, (Turn.refl _ _).alloc _⟩

set_option maxHeartbeats 800000 in
theorem read64_ok (p : Nat) (l : List UInt8) (A : Option Addr) (cap at_ : Nat) (w : World) (h : Blk w p 151 [.bool true, .slice A l.length cap, .int .i64 at_, .int .i64 0]) (hA : Rd w p A l)
    (hl : l.length ≤ 140737488355000) (hk : at_ + 8 ≤ l.length) :
    Calls Try.prog 105 #[.pointer (some ⟨p, 0, none⟩)] w fun e w' => e = .returned (.int .u64 (num 8 l at_)) ∧
      Blk w' p 151 [.bool true, .slice A l.length cap, .int .i64 (at_ + 8 : Nat), .int .i64 0] ∧ Turn (· = p) w w' := by
  obtain ⟨ad, rfl, hsp, hbk, hc⟩ := hA (by omega)
  obtain ⟨b, off, spot⟩ := ad
  obtain rfl : spot = none := hsp
  have hadd : ∀ j, (⟨b, off, none⟩ : Addr).add j = ⟨b, off + j, none⟩ := fun j => by unfold Addr.add; split <;> simp_all
  have hlt := h.lt
  have x1 : ∀ o, (w.alloc o).cell? ⟨p, 1, none⟩ = some (.slice (some ⟨b, off, none⟩) l.length cap) := fun o => (h.alloc o).cell 1
  have x2 : ∀ o, (w.alloc o).cell? ⟨p, 2, none⟩ = some (.int .i64 at_) := fun o => (h.alloc o).cell 2
  have H := Lib.hid h
  have HC := Lib.hid hc
  have hk1 : (at_ : Int) + 8 ≤ l.length := by omega
  have hk2 : ¬ ((l.length : Int) - at_ < 8) := by omega
  clear h hA hc
  go_enter Try.func105, Try.ntmps105
  go_wp2_with (go_at_call 143; refine (err_any p 0 _ _ _ (H.out.alloc _)).mono ?_; rintro e w' ⟨rfl, rfl⟩)
  go_quiet ((go_at_call 147; exact Calls.quiet_of_same ((bytesOf64 _).mono fun _ _ h => ⟨h.1, h.2.symm⟩)))
  go_wp2_with fail
  refine (each64g _ _ (fun i w'' => Blk w'' w.heap.size 93 [.pointer (some ⟨p, 0, none⟩)] ∧ Blk w'' (w.heap.size + 1) 153 [.int .u64 ((num i l at_ * 2 ^ (8 * (8 - i)) : Nat) : Int)] ∧
    Blk w'' p 151 [.bool true, .slice (some ⟨b, off, none⟩) l.length cap, .int .i64 (at_ + i : Nat), .int .i64 0] ∧ Turn (· = p) w w'') ?_ _ ?_).mono ?_
  · rintro i w2 hi ⟨hr, hn, hp, ht⟩
    have hci := (ht.block b (by omega) (by omega))
    have hcell : w2.cell? ⟨b, off + (at_ + i), none⟩ = some (u8v (l[at_ + i]'(by omega))) := by
      rw [World.cell?_of_block (w := w) hci, ← hadd]
      exact HC.out _ _ (List.getElem?_eq_getElem _)
    have hn' := num_succ i l at_ (by omega)
    have hlt' := num_lt (i + 1) l at_
    have he : 8 * (8 - i) = 8 * (8 - 1 - i) + 8 := by omega
    rw [he] at hn
    have hbound : (num i l at_ * 256 + (l[at_ + i]'(by omega)).toNat) * 2 ^ (8 * (8 - 1 - i)) < 18446744073709551616 := by
      rw [← hn']
      have h1 : num (i + 1) l at_ * 2 ^ (8 * (8 - 1 - i)) < 256 ^ (i + 1) * 2 ^ (8 * (8 - 1 - i)) := Nat.mul_lt_mul_of_pos_right hlt' (Nat.two_pow_pos _)
      have h2 : 256 ^ (i + 1) * 2 ^ (8 * (8 - 1 - i)) = 18446744073709551616 := by
        rw [show (256 : Nat) = 2 ^ 8 from rfl, ← Nat.pow_mul, ← Nat.pow_add, show 8 * (i + 1) + 8 * (8 - 1 - i) = 64 from by omega]
      omega
    refine (getStep64 (w.heap.size + 1) w.heap.size p b off (at_ + i) l.length cap (num i l at_) (8 * (8 - 1 - i)) 0 (l[at_ + i]'(by omega)) w2 (by omega) hbound hn hr hp hcell (by omega) hl).mono ?_
    rintro e w3 ⟨rfl, hn2, hr2, hp2, ht2⟩
    refine ⟨rfl, hr2, ?_, by simpa [Nat.add_assoc] using hp2, ht.trans_new ht2 (by intro k hk hk2; omega)⟩
    rw [hn', show 8 - (i + 1) = 8 - 1 - i from by omega]; exact hn2
  · refine ⟨?_, ?_, ?_, ?_⟩
    · exact ((Blk.new w 93 [.pointer (some ⟨p, 0, none⟩)]).drewN _).alloc _
    · rw [num_zero]
      exact Blk.new_ _ 153 [.int .u64 0] (by rw [size_drewN]; simp)
    · exact ((H.out.alloc _).drewN _).alloc _
    · exact (((Turn.refl _ _).alloc _).drewN _).alloc _
  · rintro e w4 ⟨rfl, hr, hn, hp, ht⟩
    have hc4 : w4.cell? ⟨w.heap.size + 1, 0, none⟩ = some (.int .u64 (num 8 l at_)) := by
      have := hn.cell 0
      simpa using this
    have HP := Lib.hid hp
    clear hr hn hp
    go_wp2
    go_ret
    exact ⟨rfl, HP.out, ht⟩

set_option maxHeartbeats 800000 in
theorem read64_short (p : Nat) (n : Nat) (A : Option Addr) (cap at_ : Nat) (w : World) (h : Blk w p 151 [.bool true, .slice A n cap, .int .i64 at_, .int .i64 0])
    (hl : n ≤ 140737488355000) (hat : at_ ≤ n) (hk : n < at_ + 8) :
    Calls Try.prog 105 #[.pointer (some ⟨p, 0, none⟩)] w fun e w' => e = .returned (.int .u64 0) ∧
      Blk w' p 151 [.bool true, .slice A n cap, .int .i64 at_, .int .i64 3] ∧ Turn (· = p) w w' := by
  have hlt := h.lt
  have x1 : ∀ o, (w.alloc o).cell? ⟨p, 1, none⟩ = some (.slice A n cap) := fun o => (h.alloc o).cell 1
  have x2 : ∀ o, (w.alloc o).cell? ⟨p, 2, none⟩ = some (.int .i64 at_) := fun o => (h.alloc o).cell 2
  have x3 : ∀ o, (w.alloc o).cell? ⟨p, 3, none⟩ = some (.int .i64 0) := fun o => (h.alloc o).cell 3
  have x4 : ∀ o, (w.alloc o).frozen? ⟨p, 3, none⟩ = false := fun o => (h.alloc o).free 3
  have y3 : w.cell? ⟨p, 3, none⟩ = some (.int .i64 0) := h.cell 3
  have y4 : w.frozen? ⟨p, 3, none⟩ = false := h.free 3
  have H := Lib.hid h
  have hk2 : (n : Int) - at_ < 8 := by omega
  clear h
  go_enter Try.func105, Try.ntmps105
  go_wp2_with (go_at_call 143; refine (err_any p 0 _ _ _ (H.out.alloc _)).mono ?_; rintro e w' ⟨rfl, rfl⟩)
  go_quiet ((go_at_call 147; exact Calls.quiet_of_same ((bytesOf64 _).mono fun _ _ h => ⟨h.1, h.2.symm⟩)))
  go_wp2
  go_ret
  refine ⟨rfl, ?_, ?_⟩
  · exact ((H.out.alloc _).drewN _).put 3 (.int .i64 3)
  · exact (((Turn.refl (· = p) w).alloc _).drewN _).setCell (p := ⟨p, 3, none⟩) (Or.inl rfl) (.int .i64 3)
end Go.Proofs.Ytaebhbdmmnpgeaa
