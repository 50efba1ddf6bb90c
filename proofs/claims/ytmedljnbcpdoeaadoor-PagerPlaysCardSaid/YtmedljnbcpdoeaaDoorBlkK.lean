/- Layer 4: the calls of a disk, each by what the document says of it; and of no disk. -/
import Derived.Test.YtmedljnbcpdoeaaDoorBlkJ
namespace Go.Proofs.YtmedljnbcpdoeaaDoor
open Go.RowKit Go.Maps
set_option linter.unusedVariables false

/-- The disk behind pointer p is D, and lies in just the blocks of S. -/
def Dq (S : Nat → Prop) (w : World) (p : Nat) (D : Dsk) : Prop := D.Ok ∧ ∃ gk gm vP, DkM w p D gk gm vP ∧ S = Own p gk gm vP
theorem Dq.lt {S : Nat → Prop} {w : World} {p : Nat} {D : Dsk} (h : Dq S w p D) : ∀ k, S k → k < w.heap.size := by
  obtain ⟨ok, gk, gm, vP, hm, rfl⟩ := h
  exact own_lt hm
theorem Dq.turn {S T : Nat → Prop} {w w' : World} {p : Nat} {D : Dsk} (h : Dq S w p D) (ht : Turn T w w') (hs : ∀ k, S k → ¬ T k) : Dq S w' p D := by
  obtain ⟨ok, gk, gm, vP, hm, rfl⟩ := h
  exact ⟨ok, gk, gm, vP, hm.turn ht hs, rfl⟩
theorem Dq.still {S : Nat → Prop} {w w' : World} {p : Nat} {D : Dsk} (h : Dq S w p D) (ht : Turn (fun _ => False) w w') : Dq S w' p D := h.turn ht fun _ _ h => h
theorem stp_own {p gk gm gk' gm' : Nat} {vP vP' : Value} {w w' : World} (ht : Turn (Own p gk gm vP) w w') (hk : gk' = gk) (hm : gm' = gm ∨ w.heap.size ≤ gm') (hv : ∀ k, vP'.ownBlock = some k → vP.ownBlock = some k ∨ w.heap.size ≤ k) : Stp (Own p gk gm vP) w (Own p gk' gm' vP') w' := by
  subst hk
  refine ⟨ht, fun k hk => ?_⟩
  rcases hk with rfl | rfl | rfl | hk
  · exact .inl (.inl rfl)
  · exact .inl (.inr (.inl rfl))
  · rcases hm with rfl | hm
    · exact .inl (.inr (.inr (.inl rfl)))
    · exact .inr hm
  · rcases hv k hk with h | h
    · exact .inl (.inr (.inr (.inr h)))
    · exact .inr h
theorem new_dq (n : Nat) (h0 : 0 < n) (h1 : n ≤ 16384) (w : World) :
    Calls Tryd.prog 6 #[.int .i64 n] w fun e w' => ∃ p S, e = .returned (.tuple #[.pointer (some ⟨p, 0, none⟩), .int .i64 0]) ∧ Dq S w' p (fresh n) ∧ (∀ k, S k → w.heap.size ≤ k) ∧ Turn (fun _ => False) w w' := by
  refine (new_ok n h0 h1 w).mono ?_
  rintro e w' ⟨p, he, ⟨ok, gk, gm, vP, hm, ho⟩, ht⟩
  exact ⟨p, _, he, ⟨ok, gk, gm, vP, hm, rfl⟩, ho, ht⟩
def Dsk.write (D : Dsk) (i : Int) (l : List UInt8) : Dsk × Int :=
  if D.dead then (D, 20) else if i < 0 ∨ (D.kept.length : Int) ≤ i then (D, 6) else if 128 < l.length then (D, 5) else if D.fuse = 0 then (D.burnt, 20) else (D.wrote i.toNat l, 0)
theorem write_dq {S : Nat → Prop} {w : World} {p : Nat} {D : Dsk} (h : Dq S w p D) (i : Int) (vb : Value) (l : List UInt8) (hb : By S w vb l) (hp : D.pend.length < 1000000000) :
    Calls Tryd.prog 62 #[.pointer (some ⟨p, 0, none⟩), .int .i64 i, vb] w fun e w' => e = .returned (.int .i64 (D.write i l).2) ∧ ∃ S', Dq S' w' p (D.write i l).1 ∧ Stp S w S' w' := by
  obtain ⟨ok, gk, gm, vP, hm, rfl⟩ := h
  have hbs := hb
  obtain ⟨A, cap, rfl, _⟩ := hb
  unfold Dsk.write
  by_cases hd : D.dead = true
  · rw [if_pos hd]
    refine (write_err ok i _ w hm (.inl hd)).mono ?_
    rintro e w' ⟨he, rfl⟩
    rw [if_pos hd] at he
    exact ⟨he, _, ⟨ok, gk, gm, vP, hm, rfl⟩, Stp.refl _ _⟩
  · rw [if_neg hd]
    have hd' : D.dead = false := by simpa using hd
    by_cases hi : i < 0 ∨ (D.kept.length : Int) ≤ i
    · rw [if_pos hi]
      refine (write_err ok i _ w hm (.inr hi)).mono ?_
      rintro e w' ⟨he, rfl⟩
      rw [if_neg hd] at he
      exact ⟨he, _, ⟨ok, gk, gm, vP, hm, rfl⟩, Stp.refl _ _⟩
    · rw [if_neg hi]
      obtain ⟨m, rfl⟩ : ∃ m : Nat, i = m := ⟨i.toNat, by omega⟩
      have hm1 : m < D.kept.length := by omega
      by_cases hl : 128 < l.length
      · rw [if_pos hl]
        refine (write_big ok m hm1 hd' A l.length cap hl w hm).mono ?_
        rintro e w' ⟨he, rfl⟩
        exact ⟨he, _, ⟨ok, gk, gm, vP, hm, rfl⟩, Stp.refl _ _⟩
      · rw [if_neg hl]
        by_cases hf : D.fuse = 0
        · rw [if_pos hf]
          refine (write_off ok m hm1 hd' A l.length cap (by omega) hf w hm).mono ?_
          rintro e w' ⟨he, h1, h2⟩
          exact ⟨he, _, ⟨ok.burnt, gk, gm, vP, h1, rfl⟩, stp_own (h2.mono (fun _ _ e => .inl e)) rfl (.inl rfl) (fun k hk => .inl hk)⟩
        · rw [if_neg hf]
          refine (write_ok ok m hm1 hd' hf _ l (by omega) w hm hbs hp).mono ?_
          rintro e w' ⟨he, vP', h1, h2, h3⟩
          refine ⟨he, _, ⟨ok.wrote hm1 (by omega), gk, gm, vP', h1, rfl⟩, stp_own h2 rfl (.inl rfl) (fun k hk => ?_)⟩
          rcases h3 with h3 | h3
          · exact .inl (by rw [← h3]; exact hk)
          · exact .inr (h3 k hk)
def Dsk.flush (D : Dsk) : Dsk × Int := if D.dead then (D, 20) else if D.fuse = 0 then (D.burnt, 20) else (D.flushed, 0)
theorem flushed_ok {D : Dsk} (ok : D.Ok) : D.flushed.Ok := (ok.burnt.keepAll (l := D.pend) (fun x hx => (ok.pend x hx).2)).lost
theorem crash_dq {S : Nat → Prop} {w : World} {p : Nat} {D : Dsk} (h : Dq S w p D) (hp : D.pend.length < 1000000000) (v : Value) (zs : List Int) (hzl : zs.length ≤ 9223372036854775807) (hk : Iv S w v zs) :
    Calls Tryd.prog 25 #[.pointer (some ⟨p, 0, none⟩), v] w fun e w' => e = .returned (.int .i64 0) ∧ ∃ S', Dq S' w' p (D.crashed zs) ∧ Stp S w S' w' := by
  obtain ⟨ok, gk, gm, vP, hm, rfl⟩ := h
  refine (crash_ok ok hp v zs hzl w hm hk).mono ?_
  rintro e w' ⟨he, gm', h1, h2, h3⟩
  exact ⟨he, _, ⟨ok.crashed zs, gk, gm', _, h1, rfl⟩, stp_own h2 rfl (.inr h3) (fun k hk => by simp [Value.ownBlock] at hk)⟩
def Dsk.arm (D : Dsk) (n : Int) : Dsk × Int := if D.dead then (D, 20) else ({ D with fuse := max n (-1) }, 0)
theorem arm_dq {S : Nat → Prop} {w : World} {p : Nat} {D : Dsk} (h : Dq S w p D) (n : Int) (hn : n ≤ 9223372036854775807) :
    Calls Tryd.prog 23 #[.pointer (some ⟨p, 0, none⟩), .int .i64 n] w fun e w' => e = .returned (.int .i64 (D.arm n).2) ∧ ∃ S', Dq S' w' p (D.arm n).1 ∧ Stp S w S' w' := by
  obtain ⟨ok, gk, gm, vP, hm, rfl⟩ := h
  refine (arm_ok ok n w hm).mono ?_
  rintro e w' ⟨he, h1, h2⟩
  have hs := stp_own (p := p) (gk := gk) (gm := gm) (vP := vP) (gk' := gk) (gm' := gm) (vP' := vP) (h2.mono (fun _ _ e => .inl e)) rfl (.inl rfl) (fun k hk => .inl hk)
  unfold Dsk.arm
  by_cases hd : D.dead = true
  · rw [if_pos hd] at he h1 ⊢
    exact ⟨he, _, ⟨ok, gk, gm, vP, h1, rfl⟩, hs⟩
  · rw [if_neg hd] at he h1 ⊢
    exact ⟨he, _, ⟨⟨ok.pos, ok.most, ok.kept, ok.pend, by simp only; omega⟩, gk, gm, vP, h1, rfl⟩, hs⟩
theorem read_dq {S : Nat → Prop} {w : World} {p : Nat} {D : Dsk} (h : Dq S w p D) (i : Nat) (hi : i < D.kept.length) (hd : D.dead = false) :
    Calls Tryd.prog 50 #[.pointer (some ⟨p, 0, none⟩), .int .i64 i] w fun e w' => e = .returned (.tuple #[.slice (some ⟨w.heap.size, 0, none⟩) 128 128, .int .i64 0]) ∧ Blk w' w.heap.size 97 (bv (D.has i)) ∧ Turn (fun _ => False) w w' := by
  obtain ⟨ok, gk, gm, vP, hm, rfl⟩ := h
  exact read_ok ok i hi hd w hm
theorem readErr_dq {S : Nat → Prop} {w : World} {p : Nat} {D : Dsk} (h : Dq S w p D) (i : Int) (hbad : D.dead = true ∨ i < 0 ∨ (D.kept.length : Int) ≤ i) :
    Calls Tryd.prog 50 #[.pointer (some ⟨p, 0, none⟩), .int .i64 i] w fun e w' => e = .returned (.tuple #[.slice none 0 0, .int .i64 (if D.dead then 20 else 6)]) ∧ w = w' := by
  obtain ⟨ok, gk, gm, vP, hm, rfl⟩ := h
  exact read_err ok i w hm hbad
theorem pending_dq {S : Nat → Prop} {w : World} {p : Nat} {D : Dsk} (h : Dq S w p D) :
    Calls Tryd.prog 29 #[.pointer (some ⟨p, 0, none⟩)] w fun e w' => e = .returned (.int .i64 D.pend.length) ∧ w = w' := by
  obtain ⟨ok, gk, gm, vP, hm, rfl⟩ := h
  exact pending_ok ok w hm
theorem size_dq {S : Nat → Prop} {w : World} {p : Nat} {D : Dsk} (h : Dq S w p D) :
    Calls Tryd.prog 33 #[.pointer (some ⟨p, 0, none⟩)] w fun e w' => e = .returned (.int .i64 D.kept.length) ∧ w = w' := by
  obtain ⟨ok, gk, gm, vP, hm, rfl⟩ := h
  exact size_ok ok w hm
/-! ### Of no disk -/
theorem check_nil (w : World) : Calls Tryd.prog 52 #[.pointer none] w fun e w' => e = .returned (.int .i64 1) ∧ w = w' := by
  go_enter Tryd.func52, Tryd.ntmps52
  go_wp2_with (go_at_call 54; refine (made_nil _).mono ?_; rintro e w' ⟨rfl, rfl⟩)
  go_ret
  exact ⟨rfl, rfl⟩
theorem check_un (p c : Nat) (A : Option Addr) (w : World) (h : w.cell? ⟨p, 0, none⟩ = some (.slice A 0 c)) : Calls Tryd.prog 52 #[.pointer (some ⟨p, 0, none⟩)] w fun e w' => e = .returned (.int .i64 1) ∧ w = w' := by
  go_enter Tryd.func52, Tryd.ntmps52
  go_wp2_with (go_at_call 54; refine (made_any p 0 c A _ h).mono ?_; rintro e w' ⟨rfl, rfl⟩)
  go_ret
  exact ⟨rfl, rfl⟩
/-- No disk, or one that nothing made. -/
def Nod (w : World) (v : Value) : Prop := v = .pointer none ∨ ∃ p c A, v = .pointer (some ⟨p, 0, none⟩) ∧ w.cell? ⟨p, 0, none⟩ = some (.slice A 0 c)
theorem made_nod {w : World} {v : Value} (h : Nod w v) : Calls Tryd.prog 54 #[v] w fun e w' => e = .returned (.bool false) ∧ w = w' := by
  rcases h with rfl | ⟨p, c, A, rfl, h⟩
  · exact made_nil w
  · exact made_any p 0 c A w h
theorem check_nod {w : World} {v : Value} (h : Nod w v) : Calls Tryd.prog 52 #[v] w fun e w' => e = .returned (.int .i64 1) ∧ w = w' := by
  rcases h with rfl | ⟨p, c, A, rfl, h⟩
  · exact check_nil w
  · exact check_un p c A w h
theorem checkSector_nod {w : World} {v : Value} (h : Nod w v) (i : Int) : Calls Tryd.prog 68 #[v, .int .i64 i] w fun e w' => e = .returned (.int .i64 1) ∧ w = w' := by
  have H := Lib.hid (check_nod h)
  clear h
  go_enter Tryd.func68, Tryd.ntmps68
  go_wp2_with (go_at_call 52; refine H.out.mono ?_; rintro e w' ⟨rfl, rfl⟩)
  go_ret
  exact ⟨rfl, rfl⟩
theorem read_nod {w : World} {v : Value} (h : Nod w v) (i : Int) : Calls Tryd.prog 50 #[v, .int .i64 i] w fun e w' => e = .returned (.tuple #[.slice none 0 0, .int .i64 1]) ∧ w = w' := by
  have H := Lib.hid (checkSector_nod h i)
  clear h
  go_enter Tryd.func50, Tryd.ntmps50
  go_wp2_with (go_at_call 68; refine H.out.mono ?_; rintro e w' ⟨rfl, rfl⟩)
  go_ret2
  exact ⟨rfl, rfl⟩
theorem write_nod {w : World} {v : Value} (h : Nod w v) (i : Int) (b : Value) : Calls Tryd.prog 62 #[v, .int .i64 i, b] w fun e w' => e = .returned (.int .i64 1) ∧ w = w' := by
  have H := Lib.hid (checkSector_nod h i)
  clear h
  go_enter Tryd.func62, Tryd.ntmps62
  go_wp2_with (go_at_call 68; refine H.out.mono ?_; rintro e w' ⟨rfl, rfl⟩)
  go_ret
  exact ⟨rfl, rfl⟩
theorem arm_nod {w : World} {v : Value} (h : Nod w v) (n : Int) : Calls Tryd.prog 23 #[v, .int .i64 n] w fun e w' => e = .returned (.int .i64 1) ∧ w = w' := by
  have H := Lib.hid (check_nod h)
  clear h
  go_enter Tryd.func23, Tryd.ntmps23
  go_wp2_with (go_at_call 52; refine H.out.mono ?_; rintro e w' ⟨rfl, rfl⟩)
  go_ret
  exact ⟨rfl, rfl⟩
theorem crash_nod {w : World} {v : Value} (h : Nod w v) (k : Value) : Calls Tryd.prog 25 #[v, k] w fun e w' => e = .returned (.int .i64 1) ∧ w = w' := by
  have H := Lib.hid (made_nod h)
  clear h
  go_enter Tryd.func25, Tryd.ntmps25
  go_wp2_with (go_at_call 54; refine H.out.mono ?_; rintro e w' ⟨rfl, rfl⟩)
  go_ret
  exact ⟨rfl, rfl⟩
theorem size_nod {w : World} {v : Value} (h : Nod w v) : Calls Tryd.prog 33 #[v] w fun e w' => e = .returned (.int .i64 0) ∧ w = w' := by
  have H := Lib.hid (made_nod h)
  clear h
  go_enter Tryd.func33, Tryd.ntmps33
  go_wp2_with (go_at_call 54; refine H.out.mono ?_; rintro e w' ⟨rfl, rfl⟩)
  go_ret
  exact ⟨rfl, rfl⟩
theorem pending_nod {w : World} {v : Value} (h : Nod w v) : Calls Tryd.prog 29 #[v] w fun e w' => e = .returned (.int .i64 0) ∧ w = w' := by
  have H := Lib.hid (made_nod h)
  clear h
  go_enter Tryd.func29, Tryd.ntmps29
  go_wp2_with (go_at_call 54; refine H.out.mono ?_; rintro e w' ⟨rfl, rfl⟩)
  go_ret
  exact ⟨rfl, rfl⟩
end Go.Proofs.YtmedljnbcpdoeaaDoor
