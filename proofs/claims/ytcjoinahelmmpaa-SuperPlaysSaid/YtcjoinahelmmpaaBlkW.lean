/- Layer 4: the document's disk: its calls as the plain steps, beside a disk of the program. -/
import Derived.Test.YtcjoinahelmmpaaBlkV
namespace Go.Proofs.Ytcjoinahelmmpaa
open Go.RowKit Go.Maps
set_option linter.unusedVariables false

/-- The document's disk as a value. -/
@[go_sem] def rd (D : Dsk) (ks : List (List UInt8)) (A : Option Addr) (c : Nat) (B : Option Addr) (d : Nat) : Value := .agg #[.int .i64 (D.kept.length : Int), .slice A ks.length c, .slice B D.pend.length d, .int .i64 D.fuse, .bool D.dead]
/-- It lies in no block of S. -/
structure Rg (S : Nat → Prop) (w : World) (D : Dsk) (ks : List (List UInt8)) (A : Option Addr) (c : Nat) (B : Option Addr) (d : Nat) : Prop where
  m : Rm w D ks A c B d
  k : ∀ b, (Value.slice A ks.length c).ownBlock = some b → ¬ S b
  p : ∀ b, (Value.slice B D.pend.length d).ownBlock = some b → ¬ S b
section
variable {S : Nat → Prop} {w : World} {D : Dsk} {ks : List (List UInt8)} {A B : Option Addr} {c d : Nat}
theorem Rg.still {w' : World} (h : Rg S w D ks A c B d) (ht : Turn (fun _ => False) w w') : Rg S w' D ks A c B d := ⟨h.m.still ht, h.k, h.p⟩
theorem Rg.stp {S' : Nat → Prop} {w' : World} (h : Rg S w D ks A c B d) (hs : Stp S w S' w') : Rg S' w' D ks A c B d :=
  ⟨⟨ownsRow_turn h.m.kept hs.1 h.k, ownsRow_turn h.m.pend hs.1 h.p, h.m.full, h.m.most⟩,
    fun b hb h' => by rcases hs.2 b h' with h1 | h1; exact h.k b hb h1; have := own_lt_ h.m.kept b hb; omega,
    fun b hb h' => by rcases hs.2 b h' with h1 | h1; exact h.p b hb h1; have := own_lt_ h.m.pend b hb; omega⟩
/-- New rows lie in no elder block. -/
theorem far_new {w' : World} {t s n : Nat} {v : Value} {xs : List Value} (hS : ∀ k, S k → k < w.heap.size) (h : w'.ownsRow w.heap.size t s v n xs) : ∀ b, v.ownBlock = some b → ¬ S b := fun b hb hs => by
  have h1 := own_ge_ h b hb
  have h2 := hS b hs
  omega
theorem write_rg (hS : ∀ k, S k → k < w.heap.size) (h : Rg S w D ks A c B d) (ok : D.Ok) (hp : D.pend.length ≤ 1000000) (i : Int) (s : ByteArray) :
    Calls Try.prog 19 #[rd D ks A c B d, .int .i64 i, .string s] w fun e w' => ∃ B' d', e = .returned (.tuple #[rd (D.write i s.data.toList).1 ks A c B' d', .int .i64 (D.write i s.data.toList).2]) ∧ Rg S w' (D.write i s.data.toList).1 ks A c B' d' ∧ Turn (fun _ => False) w w' := by
  have hls : s.data.toList.length = s.size := Array.length_toList
  have hfz := ok.fuse
  unfold Dsk.write rd
  by_cases hd : D.dead = true
  · rw [if_pos hd, hd]
    refine (writeRef_err _ A B ks.length c D.pend.length d D.fuse true i s (.inl rfl) w).mono ?_
    rintro e w' ⟨rfl, ht⟩
    exact ⟨B, d, by simp [hd], h.still ht, ht⟩
  · have hd' : D.dead = false := by simpa using hd
    rw [if_neg hd, hd']
    by_cases hb : i < 0 ∨ (D.kept.length : Int) ≤ i
    · rw [if_pos hb]
      refine (writeRef_err _ A B ks.length c D.pend.length d D.fuse false i s (by rcases hb with h | h; exact .inr (.inl h); exact .inr (.inr (.inl h))) w).mono ?_
      rintro e w' ⟨rfl, ht⟩
      exact ⟨B, d, by simp [hd', hb], h.still ht, ht⟩
    · rw [if_neg hb]
      by_cases hl : 128 < s.data.toList.length
      · rw [if_pos hl]
        refine (writeRef_err _ A B ks.length c D.pend.length d D.fuse false i s (.inr (.inr (.inr (by omega)))) w).mono ?_
        rintro e w' ⟨rfl, ht⟩
        exact ⟨B, d, by simp [hd', hb], h.still ht, ht⟩
      · rw [if_neg hl]
        obtain ⟨i, rfl⟩ : ∃ n : Nat, i = n := ⟨i.toNat, by omega⟩
        by_cases hf : D.fuse = 0
        · rw [if_pos hf, hf]
          refine (writeRef_off _ A B ks.length c D.pend.length d i (by omega) (by omega) s (by omega) w).mono ?_
          rintro e w' ⟨rfl, ht⟩
          refine ⟨B, d, ?_, ?_, ht⟩
          · simp [Dsk.burnt, hf]
          · have hx := h.still ht
            unfold Dsk.burnt
            rw [if_pos hf]
            exact ⟨⟨hx.m.kept, hx.m.pend, hx.m.full, hx.m.most⟩, hx.k, hx.p⟩
        · rw [if_neg hf, Int.toNat_natCast]
          refine (writeRef_r h.m i (by omega) hp D.fuse (by omega) hf s (by omega)).mono ?_
          rintro e w' ⟨B', d', rfl, ho, ht⟩
          have e1 : (D.wrote i s.data.toList).kept = D.kept := by simp [Dsk.wrote, (burnt_kept D).1]
          have e2 : (D.wrote i s.data.toList).pend = D.pend ++ [(i, full s.data.toList)] := rfl
          have e3 : (D.wrote i s.data.toList).fuse = if 0 < D.fuse then D.fuse - 1 else D.fuse := by
            simp only [Dsk.wrote, Dsk.burnt, if_neg hf]; split <;> rfl
          have e4 : (D.wrote i s.data.toList).dead = false := by
            simp only [Dsk.wrote, Dsk.burnt, if_neg hf]; split <;> exact hd'
          have e5 : (D.wrote i s.data.toList).pend.length = D.pend.length + 1 := by rw [e2]; simp
          refine ⟨B', d', by rw [e1, e3, e4, e5], ⟨⟨(h.still ht).m.kept, ?_, by rw [e1]; exact h.m.full, h.m.most⟩, h.k, ?_⟩, ht⟩
          · rw [e5, e2]; exact own_zero_ ho
          · rw [e5]; exact far_new hS ho
theorem flush_rg (hS : ∀ k, S k → k < w.heap.size) (h : Rg S w D ks A c B d) (ok : D.Ok) (hp : D.pend.length ≤ 1000000) :
    Calls Try.prog 53 #[rd D ks A c B d] w fun e w' => ∃ ks' A' c' B' d', e = .returned (.tuple #[rd D.flush.1 ks' A' c' B' d', .int .i64 D.flush.2]) ∧ Rg S w' D.flush.1 ks' A' c' B' d' ∧ Turn (fun _ => False) w w' := by
  have hfz := ok.fuse
  unfold Dsk.flush rd
  by_cases hd : D.dead = true
  · rw [if_pos hd, hd]
    refine (flushRef_dead _ A B ks.length c D.pend.length d D.fuse w).mono ?_
    rintro e w' ⟨rfl, ht⟩
    exact ⟨ks, A, c, B, d, by simp [hd], h.still ht, ht⟩
  · have hd' : D.dead = false := by simpa using hd
    rw [if_neg hd, hd']
    by_cases hf : D.fuse = 0
    · rw [if_pos hf, hf]
      refine (flushRef_off _ A B ks.length c D.pend.length d w).mono ?_
      rintro e w' ⟨rfl, ht⟩
      refine ⟨ks, A, c, B, d, ?_, ?_, ht⟩
      · simp [Dsk.burnt, hf]
      · have hx := h.still ht
        unfold Dsk.burnt
        rw [if_pos hf]
        exact ⟨⟨hx.m.kept, hx.m.pend, hx.m.full, hx.m.most⟩, hx.k, hx.p⟩
    · rw [if_neg hf]
      refine (flushRef_r h.m ok hp _ D.fuse (by omega) hf).mono ?_
      rintro e w' ⟨A', c', rfl, ho, ht⟩
      have hs := keepAll_same D.pend D.burnt
      have e1 : D.flushed.kept.length = D.kept.length := by rw [show D.flushed.kept = (D.burnt.keepAll D.pend).kept from rfl, hs.2.2.2, (burnt_kept D).1]
      have e3 : D.flushed.fuse = if 0 < D.fuse then D.fuse - 1 else D.fuse := by
        rw [show D.flushed.fuse = (D.burnt.keepAll D.pend).fuse from rfl, hs.2.1]
        simp only [Dsk.burnt, if_neg hf]; split <;> rfl
      have e4 : D.flushed.dead = false := by
        rw [show D.flushed.dead = (D.burnt.keepAll D.pend).dead from rfl, hs.2.2.1]
        simp only [Dsk.burnt, if_neg hf]; split <;> exact hd'
      have e5 : (setAll ks D.pend).length = ks.length := setAll_len _ _
      refine ⟨setAll ks D.pend, A', c', none, 0, by rw [e1, e3, e4, e5]; rfl, ⟨⟨by rw [e5]; exact own_zero_ ho, ⟨rfl, .inl ⟨rfl, rfl⟩⟩, ?_, ?_⟩, by rw [e5]; exact far_new hS ho, fun b hb => by simp [Value.ownBlock] at hb⟩, ht⟩
      · exact setAll_full D.pend ks D.burnt (fun x hx => (ok.pend x hx).2) (by rw [(burnt_kept D).1]; exact h.m.full)
      · exact setAll_most D.pend ks (fun x hx => by rw [(ok.pend x hx).2]; exact Nat.le_refl _) h.m.most
theorem arm_rg (h : Rg S w D ks A c B d) (k : Int) :
    Calls Try.prog 23 #[rd D ks A c B d, .int .i64 k] w fun e w' => e = .returned (.tuple #[rd (D.arm k).1 ks A c B d, .int .i64 (D.arm k).2]) ∧ Rg S w' (D.arm k).1 ks A c B d ∧ Turn (fun _ => False) w w' := by
  unfold rd
  refine (arm_r _ A B ks.length c D.pend.length d D.fuse D.dead k w).mono ?_
  rintro e w' ⟨rfl, ht⟩
  have hx := h.still ht
  unfold Dsk.arm
  by_cases hd : D.dead = true
  · rw [if_pos hd, if_pos hd, if_pos hd]
    exact ⟨rfl, hx, ht⟩
  · rw [if_neg hd, if_neg hd, if_neg hd]
    exact ⟨rfl, ⟨⟨hx.m.kept, hx.m.pend, hx.m.full, hx.m.most⟩, hx.k, hx.p⟩, ht⟩
theorem crash_rg (hS : ∀ k, S k → k < w.heap.size) (h : Rg S w D ks A c B d) (ok : D.Ok) (hp : D.pend.length ≤ 1000000) (vz : Value) (zs : List Int) (hzl : zs.length ≤ 9223372036854775807) (hk : Iv (fun _ => False) w vz zs) :
    Calls Try.prog 21 #[rd D ks A c B d, vz] w fun e w' => ∃ ks' A' c' B' d', e = .returned (rd (D.crashed zs) ks' A' c' B' d') ∧ Rg S w' (D.crashed zs) ks' A' c' B' d' ∧ Turn (fun _ => False) w w' := by
  unfold rd
  refine (crashRef_r h.m ok hp _ D.fuse D.dead vz zs hzl hk).mono ?_
  rintro e w' ⟨A', c', rfl, ho, ht⟩
  have hs := keepAll_same (sel D.pend (isIn zs)) D
  have e1 : (D.crashed zs).kept.length = D.kept.length := by rw [show (D.crashed zs).kept = (D.keepAll (sel D.pend (isIn zs))).kept from rfl, hs.2.2.2]
  have e5 : (setAll ks (sel D.pend (isIn zs))).length = ks.length := setAll_len _ _
  refine ⟨setAll ks (sel D.pend (isIn zs)), A', c', none, 0, by rw [e1, e5]; rfl, ⟨⟨by rw [e5]; exact own_zero_ ho, ⟨rfl, .inl ⟨rfl, rfl⟩⟩, ?_, ?_⟩, by rw [e5]; exact far_new hS ho, fun b hb => by simp [Value.ownBlock] at hb⟩, ht⟩
  · exact setAll_full _ ks D (fun x hx => (ok.pend x (sel_mem hx)).2) h.m.full
  · exact setAll_most _ ks (fun x hx => by rw [(ok.pend x (sel_mem hx)).2]; exact Nat.le_refl _) h.m.most
end
end Go.Proofs.Ytcjoinahelmmpaa
