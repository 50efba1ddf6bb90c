/- Layer 4: Write. -/
import Derived.Test.YtmedljnbcpdoeaaDoorBlkF
import Derived.OwnWalk
import Derived.Deep.RegionHeld3
namespace Go.Proofs.YtmedljnbcpdoeaaDoor
open Go.RowKit Go.Maps
set_option linter.unusedVariables false

/-- Bytes that are read, and lie in no block of S. -/
def By (S : Nat → Prop) (w : World) (v : Value) (l : List UInt8) : Prop := ∃ A cap, v = .slice A l.length cap ∧ (0 < l.length → ∃ ad : Addr, A = some ad ∧ ad.block < w.heap.size ∧ ¬ S ad.block ∧ ∀ j c, l[j]? = some c → w.cell? (ad.add j) = some (u8v c))
theorem By.turn {S T : Nat → Prop} {w w' : World} {v : Value} {l : List UInt8} (h : By S w v l) (ht : Turn T w w') (hs : ∀ k, T k → S k) : By S w' v l := by
  obtain ⟨A, cap, e, hr⟩ := h
  refine ⟨A, cap, e, fun hp => ?_⟩
  obtain ⟨ad, ea, hlt, hn, hc⟩ := hr hp
  refine ⟨ad, ea, Nat.lt_of_lt_of_le hlt ht.size, hn, fun j c hj => ?_⟩
  rw [World.cell?_of_block (ht.block _ (by rw [block_add]; exact hlt) (by rw [block_add]; exact fun h => hn (hs _ h)))]
  exact hc j c hj
/-- copy of bytes to the head of a longer row of the call's own. -/
theorem wpList_copy_into {P : Program} {w : World} {ops : Array Oper} {rest : List Oper} {o : Oper} {a : Act} {Q : Exit → Act → World → Prop} (hgd : o.guard = none) (d s : Operand) (dT : TypeId)
    (ho : o.op = .call { callee := .builtin .copy, args := #[d, s], argTypes := #[dT, dT] }) (elem : TypeId) (hu : P.underlying dT = some (.slice elem)) (hsz : (P.info? elem).map (·.size) = some 1)
    (S : Nat → Prop) (l : List UInt8) (g dLen dCap : Nat) (v : Value) (hd : a.eval d = .slice (some ⟨g, 0, none⟩) dLen dCap) (hs : a.eval s = v) (hA : By S w v l) (hl : l.length ≤ dLen)
    (cur : List Value) (t : TypeId) (hg : Blk w g t cur) (hfit : l.length ≤ cur.length)
    (h : ∀ w', Blk w' g t (bv l ++ cur.drop l.length) → Turn (· = g) w w' → wpList P ops Q rest (a.put o.dst (goInt l.length)) w') :
    wpList P ops Q (o :: rest) a w := by
  obtain ⟨A, sCap, rfl, hr⟩ := hA
  by_cases h0 : l.length = 0
  · obtain rfl : l = [] := List.eq_nil_of_length_eq_zero h0
    refine wpList_copy_nothing hgd d s dT dT ho elem hu hsz _ _ _ _ _ _ hd hs (by simp) ?_
    exact h w (show Blk _ _ _ _ by simpa [bv] using hg) (Turn.refl _ _)
  · obtain ⟨ad, rfl, hb, _, hc⟩ := hr (by omega)
    refine wpList_copy_own hgd d s dT dT ho elem hu hsz g 0 dLen dCap ad l.length sCap hd hs cur.toArray t hg (bv l) (by rw [len_bv]; exact (Nat.min_eq_left hl).symm) (fun j v hv => ?_) (by simpa [len_bv] using hfit) (fun v hv => ?_) ?_
    · rw [bv_at] at hv
      cases hj : l[j]? with
      | none => rw [hj] at hv; cases hv
      | some c => rw [hj] at hv; cases hv; exact hc j c hj
    · obtain ⟨c, _, rfl⟩ := List.mem_map.1 hv; rfl
    · rw [len_bv]
      refine h _ ?_ ⟨rfl, rfl, rfl, by simp [World.setRow], fun k hk hne => setRow_other w g k _ (fun e => hne (by omega))⟩
      have := setRow_heap w g cur.toArray (bv l ++ cur.drop l.length).toArray t (0, 0) hg
      unfold Blk
      simpa using this
def full (l : List UInt8) : List UInt8 := l ++ List.replicate (128 - l.length) 0
theorem len_full {l : List UInt8} (h : l.length ≤ 128) : (full l).length = 128 := by simp [full]; omega
theorem full_cells {l : List UInt8} (h : l.length ≤ 128) (i : Nat) : bv l ++ (wv (i, zeros)).drop l.length = wv (i, full l) := by
  unfold wv full zeros
  simp only
  rw [List.drop_append_of_le_length (by simp [len_bv]; omega), bv_app, List.append_assoc]
  congr 2
  simp only [bv, List.map_replicate, List.drop_replicate]
def Dsk.wrote (D : Dsk) (i : Nat) (l : List UInt8) : Dsk := { D.burnt with pend := D.pend ++ [(i, full l)] }
theorem burnt_kept (D : Dsk) : D.burnt.kept = D.kept ∧ D.burnt.pend = D.pend := by unfold Dsk.burnt; split <;> (try split) <;> exact ⟨rfl, rfl⟩
theorem Dsk.Ok.wrote {D : Dsk} (h : D.Ok) {i : Nat} (hi : i < D.kept.length) {l : List UInt8} (hl : l.length ≤ 128) : (D.wrote i l).Ok := by
  have hb := h.burnt
  obtain ⟨e1, e2⟩ := burnt_kept D
  refine ⟨by simpa [Dsk.wrote] using hb.pos, by simpa [Dsk.wrote] using hb.most, hb.kept, fun x hx => ?_, hb.fuse⟩
  simp only [Dsk.wrote, List.mem_append, List.mem_singleton] at hx ⊢
  rcases hx with hx | rfl
  · have := hb.pend x (by rw [e2]; exact hx)
    exact this
  · exact ⟨by simp only [e1]; exact hi, len_full hl⟩
theorem write_err {p gk gm : Nat} {vP : Value} {D : Dsk} (ok : D.Ok) (i : Int) (vb : Value) (w : World) (h : DkM w p D gk gm vP) (hbad : D.dead = true ∨ i < 0 ∨ (D.kept.length : Int) ≤ i) :
    Calls Tryd.prog 62 #[.pointer (some ⟨p, 0, none⟩), .int .i64 i, vb] w fun e w' => e = .returned (.int .i64 (if D.dead then 20 else 6)) ∧ w = w' := by
  have HC := Lib.hid (checkSector_ok ok i w h)
  obtain ⟨z, hz⟩ : ∃ z : Int, z = (if D.dead then 20 else 6) := ⟨_, rfl⟩
  rw [show (if D.dead then (20 : Int) else if i < 0 ∨ (D.kept.length : Int) ≤ i then 6 else 0) = z from by
    rw [hz]; cases hd : D.dead <;> simp_all] at HC
  rw [← hz]
  have hz0 : ¬ z = 0 := by rw [hz]; cases D.dead <;> simp
  clear h hbad hz
  go_enter Tryd.func62, Tryd.ntmps62
  go_wp2_with (go_at_call 68; refine HC.out.mono ?_; rintro e w' ⟨rfl, rfl⟩)
  go_ret
  exact ⟨rfl, rfl⟩
theorem write_big {p gk gm : Nat} {vP : Value} {D : Dsk} (ok : D.Ok) (i : Nat) (hi : i < D.kept.length) (hd : D.dead = false) (A : Option Addr) (n c : Nat) (hn : 128 < n) (w : World) (h : DkM w p D gk gm vP) :
    Calls Tryd.prog 62 #[.pointer (some ⟨p, 0, none⟩), .int .i64 i, .slice A n c] w fun e w' => e = .returned (.int .i64 5) ∧ w = w' := by
  have HC := Lib.hid (checkSector_ok ok i w h)
  rw [hd, if_neg (by simp), if_neg (by omega)] at HC
  clear h
  go_enter Tryd.func62, Tryd.ntmps62
  go_wp2_with (go_at_call 68; refine HC.out.mono ?_; rintro e w' ⟨rfl, rfl⟩)
  go_ret
  exact ⟨rfl, rfl⟩
theorem write_off {p gk gm : Nat} {vP : Value} {D : Dsk} (ok : D.Ok) (i : Nat) (hi : i < D.kept.length) (hd : D.dead = false) (A : Option Addr) (n c : Nat) (hn : n ≤ 128) (hf : D.fuse = 0) (w : World) (h : DkM w p D gk gm vP) :
    Calls Tryd.prog 62 #[.pointer (some ⟨p, 0, none⟩), .int .i64 i, .slice A n c] w fun e w' => e = .returned (.int .i64 20) ∧ DkM w' p D.burnt gk gm vP ∧ Turn (· = p) w w' := by
  have HC := Lib.hid (checkSector_ok ok i w h)
  rw [hd, if_neg (by simp), if_neg (by omega)] at HC
  have HB := Lib.hid (burn_ok ok w h)
  rw [if_pos hf] at HB
  clear h
  go_enter Tryd.func62, Tryd.ntmps62
  go_wp2_with (first
    | (go_at_call 68; refine HC.out.mono ?_; rintro e w' ⟨rfl, rfl⟩)
    | (go_at_call 73; refine HB.out.mono ?_; rintro e w' ⟨rfl, h1, h2⟩))
  go_ret
  exact ⟨rfl, h1, h2⟩
end Go.Proofs.YtmedljnbcpdoeaaDoor
