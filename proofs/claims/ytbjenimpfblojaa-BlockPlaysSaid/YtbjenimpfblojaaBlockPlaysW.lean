/- The walk of ambrylaw04.BlockPlays. -/
import Derived.Test.YtbjenimpfblojaaBlkZ
import Derived.Test.YtbjenimpfblojaaBlkZa
import Derived.Test.YtbjenimpfblojaaBlkZb
import Derived.Test.YtbjenimpfblojaaBlkZd
import Derived.Deep.QuietTactic
import Derived.BigQuiet
namespace Go.Proofs.Ytbjenimpfblojaa
open Go.RowKit Go.Maps
set_option linter.unusedVariables false

theorem step_any {S : Nat → Prop} {w : World} {p : Nat} {D : Dsk} (h : Dq S w p D) {ks : List (List UInt8)} {A B : Option Addr} {c d : Nat} (g : Rg S w D ks A c B d) (hp : D.pend.length ≤ 900000) (ak ai : Int) (hi1 : ai ≤ 9223372036854775807) (as_ : ByteArray) (A3 : Option Addr) (n3 c3 : Nat) (zs : List Int) (hn : zs.length = n3) (hz : Iv S w (.slice A3 n3 c3) zs) (hn3 : n3 ≤ 1000) :
    Calls Try.prog 14 #[.pointer (some ⟨p, 0, none⟩), rd D ks A c B d, .agg #[.int .i64 ak, .int .i64 ai, .string as_, .slice A3 n3 c3]] w fun e w' => After S w D e w' := by
  by_cases k1 : ak = 1
  · subst k1; exact step_1 h g hp ai as_ A3 n3 c3
  by_cases k2 : ak = 2
  · subst k2; exact step_2 h g hp ai as_ A3 n3 c3 zs hn hz hn3
  by_cases k3 : ak = 3
  · subst k3; exact step_3 h g hp ai hi1 as_ A3 n3 c3
  by_cases k4 : ak = 4
  · subst k4; exact step_4 h g hp ai as_ A3 n3 c3
  by_cases k5 : ak = 5
  · subst k5; exact step_5 h g hp ai as_ A3 n3 c3
  exact step_w h g hp ak ai (by simpa using k1) (by simpa using k2) (by simpa using k3) (by simpa using k4) (by simpa using k5) as_ A3 n3 c3
theorem own_ty_ {w : World} {B t s n : Nat} {v : Value} {xs : List Value} (h : w.ownsRow B t s v n xs) {g t' : Nat} {cs : List Value} (hb : Blk w g t' cs) (hne : t ≠ t') : ∀ b, v.ownBlock = some b → b ≠ g := by
  obtain ⟨_, ⟨rfl, _⟩ | ⟨g', c, cur, rfl, hB, hh, _⟩⟩ := h
  · intro k hk; simp [Value.ownBlock] at hk
  · intro k hk e
    simp [Value.ownBlock] at hk
    subst hk e
    unfold Blk at hb
    rw [hh] at hb
    injection hb with hb
    injection hb with h1 h2
    exact hne h2
theorem Rg.box {S : Nat → Prop} {w : World} {D : Dsk} {ks : List (List UInt8)} {A B : Option Addr} {c d : Nat} (h : Rg S w D ks A c B d) {g : Nat} {cs : List Value} (hb : Blk w g 30 cs) : Rg (fun k => S k ∨ k = g) w D ks A c B d :=
  ⟨h.m, fun b hb' h' => h'.elim (h.k b hb') (own_ty_ h.m.kept hb (by decide) b hb'), fun b hb' h' => h'.elim (h.p b hb') (own_ty_ h.m.pend hb (by decide) b hb')⟩
theorem Rg.less {S T : Nat → Prop} {w : World} {D : Dsk} {ks : List (List UInt8)} {A B : Option Addr} {c d : Nat} (h : Rg S w D ks A c B d) (hs : ∀ k, T k → S k) : Rg T w D ks A c B d := ⟨h.m, fun b hb h' => h.k b hb (hs _ h'), fun b hb h' => h.p b hb (hs _ h')⟩
/-- What both read. -/
theorem reads_both {S : Nat → Prop} {w : World} {p : Nat} {D : Dsk} (h : Dq S w p D) {ks : List (List UInt8)} {A B : Option Addr} {c d : Nat} (g : Rg S w D ks A c B d) (hp : D.pend.length ≤ 900000) (ai : Int) :
    ∃ (X : ByteArray) (n : Nat) (E : Int), (∀ W, Turn (fun _ => False) w W → Calls Try.prog 19 #[rd D ks A c B d, .int .i64 ai] W fun e w' => e = .returned (.tuple #[.string X, .int .i64 E]) ∧ Turn (fun _ => False) W w') ∧
    (∀ W, Turn (fun _ => False) w W → Calls Try.prog 18 #[.pointer (some ⟨p, 0, none⟩), .int .i64 ai] W fun e w' => ∃ Ar cr, e = .returned (.tuple #[.slice Ar n cr, .int .i64 E]) ∧ (∀ W', Turn (fun _ => False) w' W' → (convert 41 9 (.slice Ar n cr)).run Try.prog W' = .ok (.string X) W') ∧ Turn (fun _ => False) W w') := by
  by_cases hbad : D.dead = true ∨ ai < 0 ∨ (D.kept.length : Int) ≤ ai
  · refine ⟨⟨#[]⟩, 0, (if D.dead then 20 else 6), fun W ht => readRef_err _ A B ks.length c D.pend.length d D.fuse D.dead ai hbad W, fun W ht => (readErr_dq (h.still ht) ai hbad).mono ?_⟩
    rintro e w' ⟨rfl, rfl⟩
    exact ⟨none, 0, rfl, fun W' _ => conv_nil_ W', Turn.refl _ _⟩
  · have hd : D.dead = false := by cases hx : D.dead; rfl; exact absurd (.inl hx) hbad
    obtain ⟨i, rfl⟩ : ∃ n : Nat, ai = n := ⟨ai.toNat, by omega⟩
    have hi : i < D.kept.length := by omega
    refine ⟨⟨(D.has i).toArray⟩, 128, 0, fun W ht => ?_, fun W ht => (read_dq (h.still ht) i hi hd).mono ?_⟩
    · have := readRef_r (g.still ht).m i hi (by omega) D.fuse
      unfold rd
      rw [hd]
      exact this
    · rintro e w' ⟨rfl, hb, ht'⟩
      exact ⟨_, _, rfl, fun W' ht2 => conv_blk_ (hb.turn ht2 (fun h => h)) 128 128 (h.1.has_len hi), ht'⟩
/-- Between two rounds. -/
def PlR (g9 n : Nat) (w : World) (j p : Nat) (wr : World) : Prop := ∃ (S : Nat → Prop) (D : Dsk) (ks : List (List UInt8)) (A : Option Addr) (c : Nat) (B : Option Addr) (d : Nat), Dq S wr p D ∧ Rg S wr D ks A c B d ∧ Blk wr g9 30 [.int .i64 (D.kept.length : Int), .slice A ks.length c, .slice B D.pend.length d, .int .i64 D.fuse, .bool D.dead] ∧ Lv w.heap.size w S wr ∧ ¬ S g9 ∧ D.kept.length = n ∧ D.pend.length ≤ j
theorem few_ok {qs : List Acv} (h : fewB qs = true) {j : Nat} {a : Acv} (hj : qs[j]? = some a) : a.zs.length ≤ 300 ∧ a.s.size ≤ 1000 := by
  unfold fewB at h
  rw [Bool.and_eq_true] at h
  have := List.all_eq_true.1 h.2 a (List.mem_of_getElem? hj)
  unfold okB at this
  rw [Bool.and_eq_true] at this
  exact ⟨of_decide_eq_true this.1, of_decide_eq_true this.2⟩
set_option maxRecDepth 100000 in
set_option maxHeartbeats 8000000 in
theorem blockPlays_walk (n : Int) (v : Value) (qs : List Acv) (i : Int) (w : World) (hn : (Lit.int .i64 n).wf = true) (ha : Acts w.heap.size w v qs) (hi : (Lit.int .i64 i).wf = true) :
    Calls Try.prog 3 #[.int .i64 n, v, .int .i64 i] w fun e w' => e = .returned (.bool true) ∧ Below w.heap.size w w' := by
  have HA := Lib.hid ha
  obtain ⟨A3, cap3, e3, hle3, hr3⟩ := ha
  subst e3
  have hn3 : (qs.length : Int) ≤ 9223372036854775807 := by omega
  clear hr3
  by_cases hbad : n < 1 ∨ 16384 < n
  · have HB := Lib.hid hbad
    clear hbad
    by_cases hf : fewB qs = true
    · have hf2 : (fewB qs) = true := hf
      clear hf
      go_enter Try.func3, Try.ntmps3
      go_wp2_with fail
      refine (new_bad n HB.out _).mono ?_
      rintro e w1 ⟨rfl, rfl⟩
      go_wp2_with fail
      refine (newRef_err n HB.out _).mono ?_
      rintro e w2 ⟨rfl, t2⟩
      have T2 := Lib.hid t2
      clear t2
      go_wp2_with (first
        | (go_at_call 12; refine (few_r (HA.out.below (((T2.out.below (Nat.le_refl _) (fun _ h => h.elim))).alloc T2.out.size _) (Nat.le_refl _))).mono ?_; rintro e w3 ⟨rfl, rfl⟩)
        | fail)
      have B2 : Hid (Below w.heap.size w (w2.alloc (.cells #[.int .i64 0, .slice none 0 0, .slice none 0 0, .int .i64 0, .bool false] 30))) := Lib.hid ((T2.out.below (Nat.le_refl _) (fun _ h => h.elim)).alloc T2.out.size _)
      obtain ⟨W2, hW2⟩ : ∃ W, w2.alloc (.cells #[.int .i64 0, .slice none 0 0, .slice none 0 0, .int .i64 0, .bool false] 30) = W := ⟨_, rfl⟩
      rw [hW2] at B2 ⊢
      have Z2 : Hid (w.heap.size ≤ W2.heap.size) := Lib.hid B2.out.size
      clear hW2
      go_loopw [7, 11] (fun d k wr => d = .pointer none ∧ k = .int .i64 0 ∧ wr = W2) (fun _ _ _ => 0)
      case atStart => exact ⟨rfl, rfl, rfl⟩
      case round =>
        obtain ⟨rfl, rfl, rfl⟩ := hrel
        by_cases h0 : 0 < qs.length
        all_goals
          go_wp2_with fail
          refine (lives4_any _).mono ?_
          rintro e w11 ⟨rfl, tl⟩
          go_wp2_with fail
          go_ret
          exact ⟨rfl, B2.out.trans (tl.mono Z2.out)⟩
    · have hf2 : fewB qs = false := by simpa using hf
      clear hf
      go_enter Try.func3, Try.ntmps3
      go_wp2_with fail
      refine (new_bad n HB.out _).mono ?_
      rintro e w1 ⟨rfl, rfl⟩
      go_wp2_with fail
      refine (newRef_err n HB.out _).mono ?_
      rintro e w2 ⟨rfl, t2⟩
      have T2 := Lib.hid t2
      clear t2
      have B2 : Hid (Below w.heap.size w (w2.alloc (.cells #[.int .i64 0, .slice none 0 0, .slice none 0 0, .int .i64 0, .bool false] 30))) := Lib.hid ((T2.out.below (Nat.le_refl _) (fun _ h => h.elim)).alloc T2.out.size _)
      go_wp2_with fail
      refine (few_r (HA.out.below B2.out (Nat.le_refl _))).mono ?_
      rintro e w3 ⟨rfl, rfl⟩
      go_wp2_with fail
      refine (few_r (HA.out.below B2.out (Nat.le_refl _))).mono ?_
      rintro e w4 ⟨rfl, rfl⟩
      go_wp2_with fail
      refine (lives4_any _).mono ?_
      rintro e w11 ⟨rfl, tl⟩
      go_wp2_with fail
      go_ret
      exact ⟨rfl, B2.out.trans (tl.mono B2.out.size)⟩
  · obtain ⟨m, rfl⟩ : ∃ m : Nat, n = m := ⟨n.toNat, by omega⟩
    have hm0 : 0 < m := by omega
    have hm1 : m ≤ 16384 := by omega
    have HM := Lib.hid hm0
    have HM1 := Lib.hid hm1
    clear hbad
    by_cases hf : fewB qs = true
    · have FL := Lib.hid hf
      have hl200 := few_len hf
      have hf2 : (fewB qs) = true := hf
      clear hf
      go_enter Try.func3, Try.ntmps3
      go_wp2_with fail
      refine (new_dq m HM.out HM1.out _).mono ?_
      rintro e w1 ⟨p, S1, rfl, hq, hS, t1⟩
      have Q1 := Lib.hid hq
      have S1g := Lib.hid hS
      have T1 := Lib.hid t1
      clear hq hS t1
      go_wp2_with fail
      refine (newRef_r m HM.out HM1.out _).mono ?_
      rintro e w2 ⟨gr, hgr, rfl, hrm, t2⟩
      have R2 := Lib.hid hrm
      have GR := Lib.hid hgr
      have T2 := Lib.hid t2
      clear hrm hgr t2
      go_wp2_with fail
      have hlen : (List.replicate m ([] : List UInt8)).length = m := List.length_replicate
      have HP0 : Hid (PlR w2.heap.size m w 0 p (w2.alloc (.cells #[.int .i64 (m : Int), .slice (some ⟨gr, 0, none⟩) m m, .slice none 0 0, .int .i64 (-1), .bool false] 30))) := by
        have ht := (Turn.refl (fun _ => False) w2).alloc (.cells #[.int .i64 (m : Int), .slice (some ⟨gr, 0, none⟩) m m, .slice none 0 0, .int .i64 (-1), .bool false] 30)
        have hq := (Q1.out.still T2.out).still ht
        have hb := Blk.new w2 30 [.int .i64 (m : Int), .slice (some ⟨gr, 0, none⟩) m m, .slice none 0 0, .int .i64 (-1), .bool false]
        have hs := T2.out.size
        refine Lib.hid ⟨S1, fresh m, List.replicate m [], some ⟨gr, 0, none⟩, m, none, 0, hq, ⟨R2.out.still ht, fun b hb' h' => ?_, fun b hb' => by simp [Value.ownBlock] at hb'⟩, ?_, ⟨((T1.out.trans T2.out).trans ht).below (Nat.le_refl _) (fun _ h => h.elim), ((T1.out.trans T2.out).trans ht).size, S1g.out⟩, fun h' => ?_, by simp [fresh], Nat.le_refl _⟩
        · simp [Value.ownBlock] at hb'
          have := Q1.out.lt b h'
          have := GR.out
          omega
        · simpa [fresh] using hb
        · have := Q1.out.lt _ h'
          omega
      have G9 : Hid (w.heap.size ≤ w2.heap.size) := Lib.hid (T1.out.trans T2.out).size
      generalize (w2.alloc (.cells #[.int .i64 (m : Int), .slice (some ⟨gr, 0, none⟩) m m, .slice none 0 0, .int .i64 (-1), .bool false] 30)) = W2 at *
      generalize w2.heap.size = g9 at *
      have BW2 : Hid (Below w.heap.size w W2) := by obtain ⟨S, D, ks, A, c, B, d, _, _, _, hl, _⟩ := HP0.out; exact Lib.hid hl.1
      refine (few_r (HA.out.below BW2.out (Nat.le_refl _))).mono ?_
      rintro e w3 ⟨rfl, rfl⟩
      clear hlen
      go_wp2_with fail
      go_loopw [7, 11] (fun dv k wr => ∃ j p' : Nat, j ≤ qs.length ∧ dv = .pointer (some ⟨p', 0, none⟩) ∧ k = .int .i64 j ∧ PlR g9 m w j p' wr) (fun _ k _ => qs.length - (intOf k).toNat)
      case atStart => exact ⟨0, p, Nat.zero_le _, rfl, rfl, HP0.out⟩
      case round =>
        obtain ⟨j, p', hj, rfl, rfl, S, D, ks, A, c, B, d, hq, hg, hbx, hl, hns, hk, hpe⟩ := hrel
        have QJ := Lib.hid hq
        have GJ := Lib.hid (hg.box hbx)
        have BX := Lib.hid hbx
        have VJ := Lib.hid hl
        have NJ := Lib.hid hns
        have KJ := Lib.hid hk
        have PJ := Lib.hid hpe
        have GR0 := Lib.hid hg
        clear hq hg hbx hl hns hk hpe
        by_cases hlt : j < qs.length
        · obtain ⟨a, haj⟩ : ∃ a, qs[j]? = some a := ⟨_, List.getElem?_eq_getElem hlt⟩
          have HOK := Lib.hid (few_ok FL.out haj)
          obtain ⟨A2, cap2, e2, _, hr⟩ := HA.out.below VJ.out.1 (Nat.le_refl _)
          obtain ⟨b, o, eA, hbB, hc⟩ := hr (by omega)
          injection e2 with e2 e2b e2c
          rw [eA] at e2
          subst e2 e2c
          clear e2b
          obtain ⟨⟨h0, h1, h2, h3⟩, hiv, hi0, hi1⟩ := hc j a haj
          obtain ⟨ak, ai, as_, av, az⟩ := a
          simp only at h0 h1 h2 h3 hiv hi0 hi1 HOK
          have HIV := Lib.hid hiv
          obtain ⟨A4, c4, e4, hz3, hz4⟩ := hiv
          subst e4
          clear hz4
          have g1 : (j : Int) < (qs.length : Int) := by omega
          have b0 := BX.out.cell 0
          have b1 := BX.out.cell 1
          have b2 := BX.out.cell 2
          have b3 := BX.out.cell 3
          have b4 := BX.out.cell 4
          simp only [List.getElem?_cons_zero, List.getElem?_cons_succ] at b0 b1 b2 b3 b4
          have HBB := Lib.hid hbB
          have CC : Hid (∀ W, Turn S wr W → W.cell? ⟨g9, 0, none⟩ = some (.int .i64 (D.kept.length : Int)) ∧ W.cell? ⟨g9, 1, none⟩ = some (.slice A ks.length c) ∧ W.cell? ⟨g9, 2, none⟩ = some (.slice B D.pend.length d) ∧ W.cell? ⟨g9, 3, none⟩ = some (.int .i64 D.fuse) ∧ W.cell? ⟨g9, 4, none⟩ = some (.bool D.dead) ∧ W.cell? ⟨b, o + j * 4, none⟩ = some (.int .i64 ak) ∧ W.cell? ⟨b, o + j * 4 + 1, none⟩ = some (.int .i64 ai) ∧ W.cell? ⟨b, o + j * 4 + 2, none⟩ = some (.string as_) ∧ W.cell? ⟨b, o + j * 4 + 3, none⟩ = some (.slice A4 az.length c4)) := Lib.hid (fun W ht => by
            have hb := BX.out.turn ht NJ.out
            have hlw := VJ.out.2.1
            have ht2 := ht.block b (by omega) (fun h => by have := VJ.out.2.2 b h; omega)
            exact ⟨hb.cell 0, hb.cell 1, hb.cell 2, hb.cell 3, hb.cell 4, by rw [World.cell?_of_block (a := ⟨b, _, none⟩) ht2]; exact h0, by rw [World.cell?_of_block (a := ⟨b, _, none⟩) ht2]; exact h1, by rw [World.cell?_of_block (a := ⟨b, _, none⟩) ht2]; exact h2, by rw [World.cell?_of_block (a := ⟨b, _, none⟩) ht2]; exact h3⟩)
          clear hlt hr hc haj hbB hz3
          have HS : Hid (∀ W, Hid (Turn (fun _ => False) wr W) → Calls Try.prog 14 #[.pointer (some ⟨p', 0, none⟩), .agg #[.int .i64 (D.kept.length : Int), .slice A ks.length c, .slice B D.pend.length d, .int .i64 D.fuse, .bool D.dead], .agg #[.int .i64 ak, .int .i64 ai, .string as_, .slice A4 az.length c4]] W fun e w' => ∃ v, e = .returned v ∧ ∃ (p5 : Nat) (S5 : Nat → Prop) (D5 : Dsk) (k5 : List (List UInt8)) (A5 : Option Addr) (c5 : Nat) (B5 : Option Addr) (d5 : Nat), v = .tuple #[.pointer (some ⟨p5, 0, none⟩), .agg #[.int .i64 (D5.kept.length : Int), .slice A5 k5.length c5, .slice B5 D5.pend.length d5, .int .i64 D5.fuse, .bool D5.dead], .bool true] ∧ Dq S5 w' p5 D5 ∧ Rg S5 w' D5 k5 A5 c5 B5 d5 ∧ Stp S W S5 w' ∧ D5.kept.length = D.kept.length ∧ D5.pend.length ≤ D.pend.length + 1) :=
            Lib.hid (fun W ht => by
              have hstep := step_any (QJ.out.still ht.out) (GR0.out.still ht.out) (by have := PJ.out; omega) ak ai hi1 as_ A4 az.length c4 az rfl ((HIV.out.iv VJ.out.2.1 VJ.out.2.2).turn ht.out (fun _ h => h.elim)) (by have := HOK.out.1; omega)
              exact hstep.mono (fun e w' hh => by
                obtain ⟨p5, S5, D5, k5, A5, c5, B5, d5, he, h1, h2, h3, h4, h5⟩ := hh
                exact ⟨_, he, p5, S5, D5, k5, A5, c5, B5, d5, rfl, h1, h2, h3, h4, h5⟩))
          go_wp2_with fail
          have TN : Hid (Turn (fun _ => False) wr wr.drew) := Lib.hid ((Turn.refl _ _).drew)
          have ZB : Hid (Blk (wr.drew.alloc (.cells #[.int .i64 0, .slice none 0 0, .slice none 0 0, .int .i64 0, .bool false] 30)) wr.heap.size 30 [.int .i64 0, .slice none 0 0, .slice none 0 0, .int .i64 0, .bool false]) := Lib.hid (Blk.new wr.drew 30 [.int .i64 0, .slice none 0 0, .slice none 0 0, .int .i64 0, .bool false])
          have TS : Hid (Turn S wr wr.drew) := Lib.hid ((Turn.refl _ _).drew)
          go_region_held3 (fun W => W.cell? ⟨g9, 0, none⟩ = some (.int .i64 (D.kept.length : Int)) ∧ W.cell? ⟨g9, 1, none⟩ = some (.slice A ks.length c) ∧ W.cell? ⟨g9, 2, none⟩ = some (.slice B D.pend.length d) ∧ W.cell? ⟨g9, 3, none⟩ = some (.int .i64 D.fuse) ∧ W.cell? ⟨g9, 4, none⟩ = some (.bool D.dead) ∧ W.cell? ⟨b, o + j * 4, none⟩ = some (.int .i64 ak) ∧ W.cell? ⟨b, o + j * 4 + 1, none⟩ = some (.int .i64 ai) ∧ W.cell? ⟨b, o + j * 4 + 2, none⟩ = some (.string as_) ∧ W.cell? ⟨b, o + j * 4 + 3, none⟩ = some (.slice A4 az.length c4))
            (first
              | exact CC.out _ TS.out
              | exact CC.out _ (TS.out.alloc _)
              | exact CC.out _ (((((((TS.out.alloc _).setCell (p := ⟨_, 0, none⟩) (.inr TS.out.size) _).setCell (p := ⟨_, 1, none⟩) (.inr TS.out.size) _).setCell (p := ⟨_, 2, none⟩) (.inr TS.out.size) _).setCell (p := ⟨_, 3, none⟩) (.inr TS.out.size) _).setCell (p := ⟨_, 4, none⟩) (.inr TS.out.size) _))
              | exact CC.out _ (((((TS.out.setCell (p := ⟨wr.heap.size, 0, none⟩) (.inr (Nat.le_refl _)) _).setCell (p := ⟨wr.heap.size, 1, none⟩) (.inr (Nat.le_refl _)) _).setCell (p := ⟨wr.heap.size, 2, none⟩) (.inr (Nat.le_refl _)) _).setCell (p := ⟨wr.heap.size, 3, none⟩) (.inr (Nat.le_refl _)) _).setCell (p := ⟨wr.heap.size, 4, none⟩) (.inr (Nat.le_refl _)) _))
            (first
              | (refine step_call rfl 14 Try.f14 _ _ rfl Try.func14 (by kernel_rfl) (by kernel_rfl) _ _ (HS.out _ (by first | exact TN | exact Lib.hid (TN.out.alloc _))) (by go_simp) ?_
                 rintro v5 w5 ⟨p5, S5, D5, k5, A5, c5, B5, d5, rfl, hq5, hg5, hs5, hk5, hp5⟩
                 have Q5 := Lib.hid hq5
                 have G5 := Lib.hid hg5
                 have X5 := Lib.hid hs5
                 have K5 := Lib.hid hk5
                 have P5 := Lib.hid hp5
                 have TS : Hid (Turn S wr w5) := Lib.hid (by first | exact TS.out.trans hs5.1 | exact (TS.out.alloc _).trans hs5.1)
                 (try (have z5 : Blk w5 wr.heap.size 30 [.int .i64 0, .slice none 0 0, .slice none 0 0, .int .i64 0, .bool false] := ZB.out.turn hs5.1 (fun h => by have := QJ.out.lt _ h; omega); have Z5 := Lib.hid z5; have z0 := z5.cell 0; have z1 := z5.cell 1; have z2 := z5.cell 2; have z3 := z5.cell 3; have z4 := z5.cell 4; have y0 := z5.free 0; have y1 := z5.free 1; have y2 := z5.free 2; have y3 := z5.free 3; have y4 := z5.free 4; simp only [List.getElem?_cons_zero, List.getElem?_cons_succ] at z0 z1 z2 z3 z4; clear z5))
                 clear hq5 hg5 hs5 hk5 hp5))
          · have BF := Lib.hid (Blk.new w5 30 [.int .i64 (D5.kept.length : Int), .slice A5 k5.length c5, .slice B5 D5.pend.length d5, .int .i64 D5.fuse, .bool D5.dead])
            have t5 := (Turn.refl (fun _ => False) w5).alloc (.cells #[.int .i64 (D5.kept.length : Int), .slice A5 k5.length c5, .slice B5 D5.pend.length d5, .int .i64 D5.fuse, .bool D5.dead] 30)
            have TF : Hid (Turn (fun k => k = w5.heap.size) w5 (w5.alloc (.cells #[.int .i64 (D5.kept.length : Int), .slice A5 k5.length c5, .slice B5 D5.pend.length d5, .int .i64 D5.fuse, .bool D5.dead] 30))) := Lib.hid (t5.mono (fun _ _ h => h.elim))
            have GF := Lib.hid (G5.out.still t5)
            have NF : Hid (¬ S5 w5.heap.size ∧ w.heap.size ≤ w5.heap.size ∧ w5.heap.size ≠ g9) := Lib.hid ⟨fun h => absurd (Q5.out.lt _ h) (Nat.lt_irrefl _), Nat.le_trans VJ.out.2.1 TS.out.size, fun e => by have := BX.out.lt; have := TS.out.size; omega⟩
            have G13 : Hid (wr.heap.size ≤ w5.heap.size) := Lib.hid TS.out.size
            have SG : Hid (∀ k, S5 k → S k ∨ wr.heap.size ≤ k) := Lib.hid (fun k hk => X5.out.2 k hk)
            clear t5 CC HS ZB
            rename_i hHeld
            clear hHeld
            generalize (w5.alloc (.cells #[.int .i64 (D5.kept.length : Int), .slice A5 k5.length c5, .slice B5 D5.pend.length d5, .int .i64 D5.fuse, .bool D5.dead] 30)) = WF at *
            generalize w5.heap.size = g13 at *
            have QF := Lib.hid (Q5.out.turn TF.out (fun k hk e => NF.out.1 (e ▸ hk)))
            have bf := BF.out
            have e0 := bf.cell 0
            have e1 := bf.cell 1
            have e2 := bf.cell 2
            have e3 := bf.cell 3
            have e4 := bf.cell 4
            simp only [List.getElem?_cons_zero, List.getElem?_cons_succ] at e0 e1 e2 e3 e4
            have BG := Lib.hid ((BX.out.turn TS.out NJ.out).turn TF.out (fun e => NF.out.2.2 e.symm))
            have bg := BG.out
            have q0 := bg.cell 0
            have q1 := bg.cell 1
            have q2 := bg.cell 2
            have q3 := bg.cell 3
            have q4 := bg.cell 4
            have r0 := bg.free 0
            have r1 := bg.free 1
            have r2 := bg.free 2
            have r3 := bg.free 3
            have r4 := bg.free 4
            simp only [List.getElem?_cons_zero, List.getElem?_cons_succ] at q0 q1 q2 q3 q4
            clear bf bg b0 b1 b2 b3 b4 h0 h1 h2 h3
            have HPC : Hid (∀ W, Turn (fun _ => False) WF W → Calls Try.prog 15 #[.pointer (some ⟨p5, 0, none⟩)] W fun e w' => e = .returned (.int .i64 (D5.pend.length : Int)) ∧ w' = W) := Lib.hid (fun W ht => (pending_dq (QF.out.still ht)).mono (fun _ _ h => ⟨h.1, h.2.symm⟩))
            have HDC : Hid (∀ W, Turn (fun _ => False) WF W → Calls Try.prog 16 #[.pointer (some ⟨p5, 0, none⟩)] W fun e w' => e = .returned (.bool D5.dead) ∧ w' = W) := Lib.hid (fun W ht => (dead_dq (QF.out.still ht)).mono (fun _ _ h => ⟨h.1, h.2.symm⟩))
            have HSC : Hid (∀ W, Turn (fun _ => False) WF W → Calls Try.prog 17 #[.pointer (some ⟨p5, 0, none⟩)] W fun e w' => e = .returned (.int .i64 (m : Int)) ∧ w' = W) := Lib.hid (fun W ht => by have := size_dq (QF.out.still ht); rw [K5.out, KJ.out] at this; exact this.mono (fun _ _ h => ⟨h.1, h.2.symm⟩))
            go_wp2_with fail
            go_quiet ((first | (go_at_call 15; exact Calls.quiet_of_same (HPC.out _ ((Turn.refl _ _).drewN _))) | (go_at_call 16; exact Calls.quiet_of_same (HDC.out _ ((Turn.refl _ _).drewN _))) | (go_at_call 17; exact Calls.quiet_of_same (HSC.out _ ((Turn.refl _ _).drewN _)))))
            clear e0 e1 e2 e3 e4 q0 q1 q2 q3 q4 r0 r1 r2 r3 r4
            generalize hW9 : WF.drewN _ = W9
            have T9 : Hid (Turn (fun _ => False) WF W9) := by rw [← hW9]; exact Lib.hid ((Turn.refl _ _).drewN _)
            clear hW9
            have B9 := Lib.hid (BG.out.turn T9.out (fun h => h))
            have CE : Hid (∀ W, Turn (fun k => k = g9) W9 W → W.cell? ⟨g13, 0, none⟩ = some (.int .i64 (D5.kept.length : Int)) ∧ W.cell? ⟨g13, 1, none⟩ = some (.slice A5 k5.length c5) ∧ W.cell? ⟨g13, 2, none⟩ = some (.slice B5 D5.pend.length d5) ∧ W.cell? ⟨g13, 3, none⟩ = some (.int .i64 D5.fuse) ∧ W.cell? ⟨g13, 4, none⟩ = some (.bool D5.dead)) := Lib.hid (fun W ht => by
              have hb := (BF.out.turn T9.out (fun h => h)).turn ht NF.out.2.2
              exact ⟨hb.cell 0, hb.cell 1, hb.cell 2, hb.cell 3, hb.cell 4⟩)
            have q0 := B9.out.cell 0
            have q1 := B9.out.cell 1
            have q2 := B9.out.cell 2
            have q3 := B9.out.cell 3
            have q4 := B9.out.cell 4
            have r0 := B9.out.free 0
            have r1 := B9.out.free 1
            have r2 := B9.out.free 2
            have r3 := B9.out.free 3
            have r4 := B9.out.free 4
            simp only [List.getElem?_cons_zero, List.getElem?_cons_succ] at q0 q1 q2 q3 q4
            have T90 : Hid (Turn (fun k => k = g9) W9 W9.drew) := Lib.hid ((Turn.refl _ _).drew)
            go_wp2_with fail
            refine wp_region_noPanic ?_
            refine wp_region_held_drew (S := fun W => W.cell? ⟨g13, 0, none⟩ = some (.int .i64 (D5.kept.length : Int)) ∧ W.cell? ⟨g13, 1, none⟩ = some (.slice A5 k5.length c5) ∧ W.cell? ⟨g13, 2, none⟩ = some (.slice B5 D5.pend.length d5) ∧ W.cell? ⟨g13, 3, none⟩ = some (.int .i64 D5.fuse) ∧ W.cell? ⟨g13, 4, none⟩ = some (.bool D5.dead)) (by kernel_rfl) ?_ (fun hHeld => ?_)
            · exact CE.out _ T90.out
            refine wpAnyH_take (i := 0) (v := .pointer (some ⟨p5, 0, none⟩)) rfl (by kernel_rfl) (by kernel_rfl) (by kernel_rfl) (fun _ _ _ h => h) (Or.inl ⟨by rfl, ?_⟩) (by assumption) ?_
            · intro w' hSw
              go_simp
            try simp only [List.getElem_toArray, List.getElem_cons_zero, List.getElem_cons_succ, Act.put, List.setIfInBounds_toArray, List.set_cons_zero, List.set_cons_succ]
            refine wpAnyH_take (i := 1) (v := .agg #[.int .i64 (D5.kept.length : Int), .slice A5 k5.length c5, .slice B5 D5.pend.length d5, .int .i64 D5.fuse, .bool D5.dead]) rfl (by kernel_rfl) (by kernel_rfl) (by kernel_rfl) (fun _ _ _ h => h) (Or.inl ⟨by rfl, ?_⟩) (by assumption) ?_
            · intro w' hSw
              go_simp
            try simp only [List.getElem_toArray, List.getElem_cons_zero, List.getElem_cons_succ, Act.put, List.setIfInBounds_toArray, List.set_cons_zero, List.set_cons_succ]
            refine wpAnyH_take (i := 2) (v := .pointer (some ⟨p5, 0, none⟩)) rfl (by kernel_rfl) (by kernel_rfl) (by kernel_rfl) (fun _ _ _ h => h) (Or.inl ⟨by rfl, ?_⟩) (by assumption) ?_
            · intro w' hSw
              go_simp
            try simp only [List.getElem_toArray, List.getElem_cons_zero, List.getElem_cons_succ, Act.put, List.setIfInBounds_toArray, List.set_cons_zero, List.set_cons_succ]
            refine wpAnyH_ready (rs := [3]) (by kernel_rfl) (by simp) ?_
            refine AllReadyH.cons rfl (fun K hK => ?_) AllReadyH.nil
            go_simp
            refine hK.out _ _ (CE.out _ (((((T90.out.setCell (p := ⟨g9, 0, none⟩) (.inl rfl) _).setCell (p := ⟨g9, 1, none⟩) (.inl rfl) _).setCell (p := ⟨g9, 2, none⟩) (.inl rfl) _).setCell (p := ⟨g9, 3, none⟩) (.inl rfl) _).setCell (p := ⟨g9, 4, none⟩) (.inl rfl) _)) (fun hHeld => ?_)
            clear hK K
            refine wpAnyH_done (by kernel_rfl) ?_ _
            refine NoPanic.normal ?_
            have tf := ((((((Turn.refl (fun k => k = g9) W9).setCell (p := ⟨g9, 0, none⟩) (.inl rfl) (.int .i64 (D5.kept.length : Int))).setCell (p := ⟨g9, 1, none⟩) (.inl rfl) (.slice A5 k5.length c5)).setCell (p := ⟨g9, 2, none⟩) (.inl rfl) (.slice B5 D5.pend.length d5)).setCell (p := ⟨g9, 3, none⟩) (.inl rfl) (.int .i64 D5.fuse)).setCell (p := ⟨g9, 4, none⟩) (.inl rfl) (.bool D5.dead))
            have bf := (((((B9.out.put 0 (.int .i64 (D5.kept.length : Int))).put 1 (.slice A5 k5.length c5)).put 2 (.slice B5 D5.pend.length d5)).put 3 (.int .i64 D5.fuse)).put 4 (.bool D5.dead))
            simp only [List.set_cons_zero, List.set_cons_succ] at bf
            have s9 : ¬ S5 g9 := fun h => by
              rcases SG.out _ h with h1 | h1
              · exact NJ.out h1
              · have := BX.out.lt; omega
            have HPX : Hid (∀ WE, Turn (fun k => k = g9) W9 WE → Blk WE g9 30 [.int .i64 (D5.kept.length : Int), .slice A5 k5.length c5, .slice B5 D5.pend.length d5, .int .i64 D5.fuse, .bool D5.dead] → PlR g9 m w (j + 1) p5 WE) := Lib.hid (fun WE te be => by
              have hq := (QF.out.still T9.out).turn te (fun k hk e => s9 (e ▸ hk))
              have hg := ((GF.out.still T9.out).box B9.out).turn (te.mono (fun _ _ h => .inr h))
              have tt : Turn S wr W9 := ((TS.out.trans_new TF.out (fun k hk e => by have := NF.out.2.2; subst e; exact absurd hk (by have := G13.out; omega))).trans (T9.out.mono (fun _ _ h => h.elim)))
              exact ⟨S5, D5, k5, A5, c5, B5, d5, hq, hg.less (fun _ h => .inl h), be, ⟨(VJ.out.1.trans (tt.below VJ.out.2.1 VJ.out.2.2)).trans (te.below (by have := tt.size; have := VJ.out.2.1; omega) (fun k e => by have := G9.out; omega)), by have := te.size; have := tt.size; have := VJ.out.2.1; omega, fun k hk => by rcases SG.out k hk with h1 | h1; exact VJ.out.2.2 k h1; have := VJ.out.2.1; omega⟩, s9, K5.out.trans KJ.out, by have := P5.out; have := PJ.out; omega⟩)
            have HTF := Lib.hid tf
            have HBF := Lib.hid bf
            clear tf bf s9 q0 q1 q2 q3 q4 r0 r1 r2 r3 r4
            go_wp2_with fail
            go_roundw
            case rel => exact ⟨j + 1, p5, by omega, rfl, by go_num, by first | exact HPX.out _ HTF.out HBF.out | exact HPX.out _ HTF.out.drew HBF.out.drew⟩
            case measure => simp [intOf]; omega
          · have bf := (((((Z5.out.put 0 (.int .i64 (D5.kept.length : Int))).put 1 (.slice A5 k5.length c5)).put 2 (.slice B5 D5.pend.length d5)).put 3 (.int .i64 D5.fuse)).put 4 (.bool D5.dead))
            simp only [List.set_cons_zero, List.set_cons_succ] at bf
            have BF := Lib.hid bf
            have tf := (((((Turn.refl (fun k => k = wr.heap.size) w5).setCell (p := ⟨wr.heap.size, 0, none⟩) (.inl rfl) (.int .i64 (D5.kept.length : Int))).setCell (p := ⟨wr.heap.size, 1, none⟩) (.inl rfl) (.slice A5 k5.length c5)).setCell (p := ⟨wr.heap.size, 2, none⟩) (.inl rfl) (.slice B5 D5.pend.length d5)).setCell (p := ⟨wr.heap.size, 3, none⟩) (.inl rfl) (.int .i64 D5.fuse)).setCell (p := ⟨wr.heap.size, 4, none⟩) (.inl rfl) (.bool D5.dead)
            have TF := Lib.hid tf
            have GF := Lib.hid (((G5.out.box Z5.out).turn (tf.mono (fun _ _ h => .inr h))).less (T := S5) (fun _ h => .inl h))
            have NF : Hid (¬ S5 wr.heap.size ∧ w.heap.size ≤ wr.heap.size ∧ wr.heap.size ≠ g9) := Lib.hid ⟨fun h => by rcases X5.out.2 _ h with h1 | h1; (have := QJ.out.lt _ h1; omega); (simp at h1; omega), VJ.out.2.1, fun e => by have := BX.out.lt; omega⟩
            have G13 : Hid (wr.heap.size ≤ wr.heap.size) := Lib.hid (Nat.le_refl _)
            have SG : Hid (∀ k, S5 k → S k ∨ wr.heap.size ≤ k) := Lib.hid (fun k hk => by rcases X5.out.2 k hk with h1 | h1; exact .inl h1; simp at h1; exact .inr (by omega))
            clear bf tf z0 z1 z2 z3 z4 y0 y1 y2 y3 y4 CC HS ZB Z5
            rename_i hHeld
            clear hHeld
            generalize (((((w5.setCell ⟨wr.heap.size, 0, none⟩ (.int .i64 (D5.kept.length : Int))).setCell ⟨wr.heap.size, 1, none⟩ (.slice A5 k5.length c5)).setCell ⟨wr.heap.size, 2, none⟩ (.slice B5 D5.pend.length d5)).setCell ⟨wr.heap.size, 3, none⟩ (.int .i64 D5.fuse)).setCell ⟨wr.heap.size, 4, none⟩ (.bool D5.dead)) = WF at *
            obtain ⟨g13, h13⟩ : ∃ g, wr.heap.size = g := ⟨_, rfl⟩
            rw [h13] at BF TF NF ⊢
            rw [h13] at G13
            have G13' : Hid (wr.heap.size ≤ g13) := Lib.hid (Nat.le_of_eq h13)
            clear G13 h13
            have G13 := G13'
            clear G13'
            have QF := Lib.hid (Q5.out.turn TF.out (fun k hk e => NF.out.1 (e ▸ hk)))
            have bf := BF.out
            have e0 := bf.cell 0
            have e1 := bf.cell 1
            have e2 := bf.cell 2
            have e3 := bf.cell 3
            have e4 := bf.cell 4
            simp only [List.getElem?_cons_zero, List.getElem?_cons_succ] at e0 e1 e2 e3 e4
            have BG := Lib.hid ((BX.out.turn TS.out NJ.out).turn TF.out (fun e => NF.out.2.2 e.symm))
            have bg := BG.out
            have q0 := bg.cell 0
            have q1 := bg.cell 1
            have q2 := bg.cell 2
            have q3 := bg.cell 3
            have q4 := bg.cell 4
            have r0 := bg.free 0
            have r1 := bg.free 1
            have r2 := bg.free 2
            have r3 := bg.free 3
            have r4 := bg.free 4
            simp only [List.getElem?_cons_zero, List.getElem?_cons_succ] at q0 q1 q2 q3 q4
            clear bf bg b0 b1 b2 b3 b4 h0 h1 h2 h3
            have HPC : Hid (∀ W, Turn (fun _ => False) WF W → Calls Try.prog 15 #[.pointer (some ⟨p5, 0, none⟩)] W fun e w' => e = .returned (.int .i64 (D5.pend.length : Int)) ∧ w' = W) := Lib.hid (fun W ht => (pending_dq (QF.out.still ht)).mono (fun _ _ h => ⟨h.1, h.2.symm⟩))
            have HDC : Hid (∀ W, Turn (fun _ => False) WF W → Calls Try.prog 16 #[.pointer (some ⟨p5, 0, none⟩)] W fun e w' => e = .returned (.bool D5.dead) ∧ w' = W) := Lib.hid (fun W ht => (dead_dq (QF.out.still ht)).mono (fun _ _ h => ⟨h.1, h.2.symm⟩))
            have HSC : Hid (∀ W, Turn (fun _ => False) WF W → Calls Try.prog 17 #[.pointer (some ⟨p5, 0, none⟩)] W fun e w' => e = .returned (.int .i64 (m : Int)) ∧ w' = W) := Lib.hid (fun W ht => by have := size_dq (QF.out.still ht); rw [K5.out, KJ.out] at this; exact this.mono (fun _ _ h => ⟨h.1, h.2.symm⟩))
            go_wp2_with fail
            go_quiet ((first | (go_at_call 15; exact Calls.quiet_of_same (HPC.out _ ((Turn.refl _ _).drewN _))) | (go_at_call 16; exact Calls.quiet_of_same (HDC.out _ ((Turn.refl _ _).drewN _))) | (go_at_call 17; exact Calls.quiet_of_same (HSC.out _ ((Turn.refl _ _).drewN _)))))
            clear e0 e1 e2 e3 e4 q0 q1 q2 q3 q4 r0 r1 r2 r3 r4
            generalize hW9 : WF.drewN _ = W9
            have T9 : Hid (Turn (fun _ => False) WF W9) := by rw [← hW9]; exact Lib.hid ((Turn.refl _ _).drewN _)
            clear hW9
            have B9 := Lib.hid (BG.out.turn T9.out (fun h => h))
            have CE : Hid (∀ W, Turn (fun k => k = g9) W9 W → W.cell? ⟨g13, 0, none⟩ = some (.int .i64 (D5.kept.length : Int)) ∧ W.cell? ⟨g13, 1, none⟩ = some (.slice A5 k5.length c5) ∧ W.cell? ⟨g13, 2, none⟩ = some (.slice B5 D5.pend.length d5) ∧ W.cell? ⟨g13, 3, none⟩ = some (.int .i64 D5.fuse) ∧ W.cell? ⟨g13, 4, none⟩ = some (.bool D5.dead)) := Lib.hid (fun W ht => by
              have hb := (BF.out.turn T9.out (fun h => h)).turn ht NF.out.2.2
              exact ⟨hb.cell 0, hb.cell 1, hb.cell 2, hb.cell 3, hb.cell 4⟩)
            have q0 := B9.out.cell 0
            have q1 := B9.out.cell 1
            have q2 := B9.out.cell 2
            have q3 := B9.out.cell 3
            have q4 := B9.out.cell 4
            have r0 := B9.out.free 0
            have r1 := B9.out.free 1
            have r2 := B9.out.free 2
            have r3 := B9.out.free 3
            have r4 := B9.out.free 4
            simp only [List.getElem?_cons_zero, List.getElem?_cons_succ] at q0 q1 q2 q3 q4
            have T90 : Hid (Turn (fun k => k = g9) W9 W9.drew) := Lib.hid ((Turn.refl _ _).drew)
            go_wp2_with fail
            refine wp_region_noPanic ?_
            refine wp_region_held_drew (S := fun W => W.cell? ⟨g13, 0, none⟩ = some (.int .i64 (D5.kept.length : Int)) ∧ W.cell? ⟨g13, 1, none⟩ = some (.slice A5 k5.length c5) ∧ W.cell? ⟨g13, 2, none⟩ = some (.slice B5 D5.pend.length d5) ∧ W.cell? ⟨g13, 3, none⟩ = some (.int .i64 D5.fuse) ∧ W.cell? ⟨g13, 4, none⟩ = some (.bool D5.dead)) (by kernel_rfl) ?_ (fun hHeld => ?_)
            · exact CE.out _ T90.out
            refine wpAnyH_take (i := 0) (v := .pointer (some ⟨p5, 0, none⟩)) rfl (by kernel_rfl) (by kernel_rfl) (by kernel_rfl) (fun _ _ _ h => h) (Or.inl ⟨by rfl, ?_⟩) (by assumption) ?_
            · intro w' hSw
              go_simp
            try simp only [List.getElem_toArray, List.getElem_cons_zero, List.getElem_cons_succ, Act.put, List.setIfInBounds_toArray, List.set_cons_zero, List.set_cons_succ]
            refine wpAnyH_take (i := 1) (v := .agg #[.int .i64 (D5.kept.length : Int), .slice A5 k5.length c5, .slice B5 D5.pend.length d5, .int .i64 D5.fuse, .bool D5.dead]) rfl (by kernel_rfl) (by kernel_rfl) (by kernel_rfl) (fun _ _ _ h => h) (Or.inl ⟨by rfl, ?_⟩) (by assumption) ?_
            · intro w' hSw
              go_simp
            try simp only [List.getElem_toArray, List.getElem_cons_zero, List.getElem_cons_succ, Act.put, List.setIfInBounds_toArray, List.set_cons_zero, List.set_cons_succ]
            refine wpAnyH_take (i := 2) (v := .pointer (some ⟨p5, 0, none⟩)) rfl (by kernel_rfl) (by kernel_rfl) (by kernel_rfl) (fun _ _ _ h => h) (Or.inl ⟨by rfl, ?_⟩) (by assumption) ?_
            · intro w' hSw
              go_simp
            try simp only [List.getElem_toArray, List.getElem_cons_zero, List.getElem_cons_succ, Act.put, List.setIfInBounds_toArray, List.set_cons_zero, List.set_cons_succ]
            refine wpAnyH_ready (rs := [3]) (by kernel_rfl) (by simp) ?_
            refine AllReadyH.cons rfl (fun K hK => ?_) AllReadyH.nil
            go_simp
            refine hK.out _ _ (CE.out _ (((((T90.out.setCell (p := ⟨g9, 0, none⟩) (.inl rfl) _).setCell (p := ⟨g9, 1, none⟩) (.inl rfl) _).setCell (p := ⟨g9, 2, none⟩) (.inl rfl) _).setCell (p := ⟨g9, 3, none⟩) (.inl rfl) _).setCell (p := ⟨g9, 4, none⟩) (.inl rfl) _)) (fun hHeld => ?_)
            clear hK K
            refine wpAnyH_done (by kernel_rfl) ?_ _
            refine NoPanic.normal ?_
            have tf := ((((((Turn.refl (fun k => k = g9) W9).setCell (p := ⟨g9, 0, none⟩) (.inl rfl) (.int .i64 (D5.kept.length : Int))).setCell (p := ⟨g9, 1, none⟩) (.inl rfl) (.slice A5 k5.length c5)).setCell (p := ⟨g9, 2, none⟩) (.inl rfl) (.slice B5 D5.pend.length d5)).setCell (p := ⟨g9, 3, none⟩) (.inl rfl) (.int .i64 D5.fuse)).setCell (p := ⟨g9, 4, none⟩) (.inl rfl) (.bool D5.dead))
            have bf := (((((B9.out.put 0 (.int .i64 (D5.kept.length : Int))).put 1 (.slice A5 k5.length c5)).put 2 (.slice B5 D5.pend.length d5)).put 3 (.int .i64 D5.fuse)).put 4 (.bool D5.dead))
            simp only [List.set_cons_zero, List.set_cons_succ] at bf
            have s9 : ¬ S5 g9 := fun h => by
              rcases SG.out _ h with h1 | h1
              · exact NJ.out h1
              · have := BX.out.lt; omega
            have HPX : Hid (∀ WE, Turn (fun k => k = g9) W9 WE → Blk WE g9 30 [.int .i64 (D5.kept.length : Int), .slice A5 k5.length c5, .slice B5 D5.pend.length d5, .int .i64 D5.fuse, .bool D5.dead] → PlR g9 m w (j + 1) p5 WE) := Lib.hid (fun WE te be => by
              have hq := (QF.out.still T9.out).turn te (fun k hk e => s9 (e ▸ hk))
              have hg := ((GF.out.still T9.out).box B9.out).turn (te.mono (fun _ _ h => .inr h))
              have tt : Turn S wr W9 := ((TS.out.trans_new TF.out (fun k hk e => by have := NF.out.2.2; subst e; exact absurd hk (by have := G13.out; omega))).trans (T9.out.mono (fun _ _ h => h.elim)))
              exact ⟨S5, D5, k5, A5, c5, B5, d5, hq, hg.less (fun _ h => .inl h), be, ⟨(VJ.out.1.trans (tt.below VJ.out.2.1 VJ.out.2.2)).trans (te.below (by have := tt.size; have := VJ.out.2.1; omega) (fun k e => by have := G9.out; omega)), by have := te.size; have := tt.size; have := VJ.out.2.1; omega, fun k hk => by rcases SG.out k hk with h1 | h1; exact VJ.out.2.2 k h1; have := VJ.out.2.1; omega⟩, s9, K5.out.trans KJ.out, by have := P5.out; have := PJ.out; omega⟩)
            have HTF := Lib.hid tf
            have HBF := Lib.hid bf
            clear tf bf s9 q0 q1 q2 q3 q4 r0 r1 r2 r3 r4
            go_wp2_with fail
            go_roundw
            case rel => exact ⟨j + 1, p5, by omega, rfl, by go_num, by first | exact HPX.out _ HTF.out HBF.out | exact HPX.out _ HTF.out.drew HBF.out.drew⟩
            case measure => simp [intOf]; omega
        · obtain rfl : j = qs.length := by omega
          obtain ⟨X, n5, E5, hr5, hd5⟩ := reads_both QJ.out GR0.out (by have := PJ.out; omega) i
          have HR5 := Lib.hid hr5
          have HD5 := Lib.hid hd5
          have hsx := str_same X
          unfold rd at HR5
          clear hr5 hd5 hlt
          go_wp2_with fail
          refine (HD5.out _ (Turn.refl _ _)).mono ?_
          rintro e w5 ⟨Ar, cr, rfl, hcv, ht5⟩
          have CV := Lib.hid hcv
          have T5 := Lib.hid ht5
          have B5' := Lib.hid (BX.out.turn ht5 (fun h => h))
          have b0 := B5'.out.cell 0
          have b1 := B5'.out.cell 1
          have b2 := B5'.out.cell 2
          have b3 := B5'.out.cell 3
          have b4 := B5'.out.cell 4
          simp only [List.getElem?_cons_zero, List.getElem?_cons_succ] at b0 b1 b2 b3 b4
          clear hcv ht5
          go_wp2_with fail
          refine (HR5.out _ T5.out).mono ?_
          rintro e w6 ⟨rfl, ht6⟩
          have cv := CV.out _ ht6
          have T6 := Lib.hid (T5.out.trans ht6)
          clear ht6
          go_wp2_with fail
          refine (lives4_any _).mono ?_
          rintro e w11 ⟨rfl, tl⟩
          have HTL := Lib.hid tl
          clear tl cv
          go_wp2_with fail
          go_ret
          have tt := T6.out.below VJ.out.2.1 (fun _ h => h.elim)
          exact ⟨rfl, (VJ.out.1.trans tt).trans (HTL.out.mono (Nat.le_trans VJ.out.2.1 T6.out.size))⟩
    · have hf2 : fewB qs = false := by simpa using hf
      clear hf
      go_enter Try.func3, Try.ntmps3
      go_wp2_with fail
      refine (new_dq m HM.out HM1.out _).mono ?_
      rintro e w1 ⟨p, S1, rfl, hq, hS, t1⟩
      have T1 := Lib.hid t1
      clear hq hS t1
      go_wp2_with fail
      refine (newRef_r m HM.out HM1.out _).mono ?_
      rintro e w2 ⟨gr, hgr, rfl, hrm, t2⟩
      have T2 := Lib.hid (T1.out.trans t2)
      clear hrm hgr t2
      have B2 : Hid (∀ o, Below w.heap.size w (w2.alloc o)) := Lib.hid (fun o => (T2.out.below (Nat.le_refl _) (fun _ h => h.elim)).alloc T2.out.size o)
      go_wp2_with fail
      refine (few_r (HA.out.below (B2.out _) (Nat.le_refl _))).mono ?_
      rintro e w3 ⟨rfl, rfl⟩
      go_wp2_with fail
      refine (few_r (HA.out.below (B2.out _) (Nat.le_refl _))).mono ?_
      rintro e w4 ⟨rfl, rfl⟩
      go_wp2_with fail
      refine (lives4_any _).mono ?_
      rintro e w11 ⟨rfl, tl⟩
      go_wp2_with fail
      go_ret
      exact ⟨rfl, (B2.out _).trans (tl.mono (B2.out _).size)⟩
end Go.Proofs.Ytbjenimpfblojaa
