/- Layer 4: a step of both disks: Crash. -/
import Derived.Test.YtbjenimpfblojaaBlkZc
namespace Go.Proofs.Ytbjenimpfblojaa
open Go.RowKit Go.Maps
set_option linter.unusedVariables false

theorem Try.infoInt_ : (Try.prog.info? 3).map (fun i => (i.zero, i.size, i.bytes)) = some (some (.int .i64 0), 1, 8) := by kernel_rfl
theorem ints_one_ (zs : List Int) : ∀ u ∈ zs.map (Value.int .i64), u.oneCell' = true := fun u hu => by obtain ⟨c, _, rfl⟩ := List.mem_map.1 hu; rfl
theorem run_app_ints_ {P : Program} (w : World) (t ty e : TypeId) (i : TypeInfo) (ht : P.underlying t = some (.slice e)) (hi : P.info? e = some i) (hz : i.zero = some (.int .i64 0)) (hsize : i.size = 1) (hby : i.bytes = 8)
    (g n c : Nat) (A : Option Addr) (zs : List Int) (hn : zs.length = n) (hx : Iv (fun _ => False) w (.slice A n c) zs) (hbytes : n ≤ 1000) :
    ∃ v' w', (Builtin.append_ #[t, t] ty #[.slice (some ⟨g, 0, none⟩) 0 0, .slice A n c]).run P w = .ok v' w' ∧ (∃ A' c', v' = .slice A' n c' ∧ ∀ S : Nat → Prop, (∀ k, S k → k < w.heap.size) → Iv S w' (.slice A' n c') zs) ∧ Turn (fun _ => False) w w' := by
  subst hn
  by_cases h0 : zs.length = 0
  · obtain rfl : zs = [] := List.eq_nil_of_length_eq_zero h0
    refine ⟨.slice (some ⟨g, 0, none⟩) 0 0, w, ?_, ⟨_, 0, rfl, fun S _ => ⟨_, _, rfl, fun h => absurd h (by simp)⟩⟩, Turn.refl _ _⟩
    cases A with
    | none => simp [Builtin.append_, run_underlying ht, sizeOf, typeInfo, hi, Builtin.lenOf, Builtin.firstCells, storeCells]
    | some ad =>
      have := run_append_room_cells (P := P) w t ty e i ht hi g 0 0 0 ad 0 c [] (by simp) (by simp) (by simp) (by simp) (by simp) (by simp)
      simpa [World.setCells] using this
  · obtain ⟨A', c', he, hr⟩ := hx
    obtain ⟨b, o, hA, hlt, _, hc⟩ := hr (by omega)
    injection he with he _ he3
    subst he he3 hA
    obtain ⟨v', w', hrun, h2, h3⟩ := run_append_arg_grows (P := P) w t ty e i (.int .i64 0) 1 8 ht hi hz hsize hby rfl (by decide) ⟨g, 0, none⟩ 0 0 [] (by simp) (by simp) ⟨b, o, none⟩ zs.length c (zs.map (Value.int .i64)) (by simp) (fun j u hu => by
      rw [List.getElem?_map] at hu
      cases hj : zs[j]? with
      | none => rw [hj] at hu; cases hu
      | some z =>
        rw [hj] at hu; cases hu
        rw [Addr.add_mid]; exact hc j z hj) (by omega) (by unfold maxLen; omega) (by omega)
    have ho : w'.ownsRow w.heap.size e 1 v' zs.length (zs.map (Value.int .i64)) := by simpa using h2
    have ht' : Turn (fun _ => False) w w' := Turn.of_below ((Below.refl w.heap.size w).grown h3 (Nat.le_refl _) (by intro k hk; cases hk)) (fun k h1 h2 => by omega)
    obtain ⟨_, ⟨_, h00⟩ | ⟨g', cap, cur, rfl, hB, hh, hn, hcap, hs, ht2⟩⟩ := ho
    · exact absurd h00 h0
    · refine ⟨_, w', hrun, ⟨_, cap, rfl, fun S hS => ⟨_, _, rfl, fun _ => ⟨g', 0, rfl, (Array.getElem?_eq_some_iff.1 hh).1, fun h => by have := hS _ h; omega, fun j z hj => ?_⟩⟩⟩, ht'⟩
      have hcell : (zs.map (Value.int .i64))[j]? = some (.int .i64 z) := by rw [List.getElem?_map, hj]; rfl
      rw [← ht2, List.getElem?_take] at hcell
      split at hcell
      · have : w'.cell? ⟨g', 0 + j, none⟩ = cur[j]? := by simp [World.cell?, hh]
        rw [this]; simpa using hcell
      · cases hcell
theorem step_app_ints_ {P : Program} {w : World} {ops : Array Oper} {o : Oper} {a : Go.Act} {K : Go.Act → World → Prop} {Q : Exit → Go.Act → World → Prop} {E : Prop} (hgd : o.guard = none) (s y : Operand) (t : TypeId)
    (ho : o.op = .call { callee := .builtin .append, args := #[s, y], argTypes := #[t, t] })
    (e : TypeId) (i : TypeInfo) (ht : P.underlying t = some (.slice e)) (hi : P.info? e = some i) (hz : i.zero = some (.int .i64 0)) (hsize : i.size = 1) (hby : i.bytes = 8)
    (g n c : Nat) (A : Option Addr) (zs : List Int) (hs : a.eval s = .slice (some ⟨g, 0, none⟩) 0 0) (hy : a.eval y = .slice A n c) (hn : zs.length = n) (hx : Iv (fun _ => False) w (.slice A n c) zs) (hbytes : n ≤ 1000)
    (h : ∀ v' w', (∃ A' c', v' = .slice A' n c' ∧ ∀ S : Nat → Prop, (∀ k, S k → k < w.heap.size) → Iv S w' (.slice A' n c') zs) → Turn (fun _ => False) w w' → K (a.put o.dst v') w') :
    if Region.wanted o (yielded ops a.tmps) = true then Oper.wp P o a w K Q else E := by
  have hw : Region.wanted o (yielded ops a.tmps) = true := by simp [Region.wanted, hgd]
  rw [if_pos hw]
  obtain ⟨v', w', hr, h2, h3⟩ := run_app_ints_ (P := P) w t o.type e i ht hi hz hsize hby g n c A zs hn hx hbytes
  unfold Oper.wp execOp
  simp only [ho, resolve, invoke, builtin, Sem.run_bind, Sem.run_pure, Result.andThen_ok, List.map_toArray, List.map_cons, List.map_nil, hs, hy, hr]
  exact h v' w' h2 h3
theorem Iv.less {S T : Nat → Prop} {w : World} {v : Value} {zs : List Int} (h : Iv S w v zs) (hs : ∀ k, T k → S k) : Iv T w v zs := by
  obtain ⟨A, c, e, hr⟩ := h
  exact ⟨A, c, e, fun hp => by obtain ⟨b, o, e1, e2, e3, e4⟩ := hr hp; exact ⟨b, o, e1, e2, fun h => e3 (hs _ h), e4⟩⟩
theorem Iv.plus_ {S : Nat → Prop} {w : World} {v : Value} {zs : List Int} (h : Iv S w v zs) {x : Nat} (hx : w.heap.size ≤ x) : Iv (fun k => S k ∨ k = x) w v zs := by
  obtain ⟨A, c, e, hr⟩ := h
  exact ⟨A, c, e, fun hp => by obtain ⟨b, o, e1, e2, e3, e4⟩ := hr hp; exact ⟨b, o, e1, e2, fun h => h.elim e3 (fun h => by omega), e4⟩⟩
theorem Rg.turn {S : Nat → Prop} {w w' : World} {D : Dsk} {ks : List (List UInt8)} {A B : Option Addr} {c d : Nat} (h : Rg S w D ks A c B d) (ht : Turn S w w') : Rg S w' D ks A c B d := h.stp ⟨ht, fun _ h => .inl h⟩
/-- What Crash tells lies in new memory. -/
theorem crash_new {S : Nat → Prop} {w : World} {D : Dsk} {ks : List (List UInt8)} {A B : Option Addr} {c d : Nat} (h : Rg S w D ks A c B d) (ok : D.Ok) (hp : D.pend.length ≤ 1000000) (vz : Value) (zs : List Int) (hzl : zs.length ≤ 9223372036854775807) (hk : Iv (fun _ => False) w vz zs) :
    Calls Try.prog 37 #[rd D ks A c B d, vz] w fun e w' => ∃ v, e = .returned v ∧ ∃ ks' A' c' B' d', v = rd (D.crashed zs) ks' A' c' B' d' ∧ Rg (fun k => k < w.heap.size) w' (D.crashed zs) ks' A' c' B' d' ∧ Turn (fun _ => False) w w' := by
  unfold rd
  refine (crashRef_r h.m ok hp _ D.fuse D.dead vz zs hzl hk).mono ?_
  rintro e w' ⟨A', c', rfl, ho, ht⟩
  have hs := keepAll_same (sel D.pend (isIn zs)) D
  have e1 : (D.crashed zs).kept.length = D.kept.length := by rw [show (D.crashed zs).kept = (D.keepAll (sel D.pend (isIn zs))).kept from rfl, hs.2.2.2]
  have e5 : (setAll ks (sel D.pend (isIn zs))).length = ks.length := setAll_len _ _
  refine ⟨_, rfl, setAll ks (sel D.pend (isIn zs)), A', c', none, 0, by rw [e1, e5]; rfl, ⟨⟨by rw [e5]; exact own_zero_ ho, ⟨rfl, .inl ⟨rfl, rfl⟩⟩, ?_, ?_⟩, by rw [e5]; exact far_new (fun _ h => h) ho, fun b hb => by simp [Value.ownBlock] at hb⟩, ht⟩
  · exact setAll_full _ ks D (fun x hx => (ok.pend x (sel_mem hx)).2) h.m.full
  · exact setAll_most _ ks (fun x hx => by rw [(ok.pend x (sel_mem hx)).2]; exact Nat.le_refl _) h.m.most
/-- What a step leaves, the two disks' calls in whichever order. -/
theorem after2_ {S S' : Nat → Prop} {w W0 WA w6 WE w5 WF : World} {p x : Nat} {D D' : Dsk} {ks' : List (List UInt8)} {A' B' : Option Addr} {c' d' : Nat} (h0 : w.heap.size ≤ x)
    (T0 : Turn (fun _ => False) w W0) (hA : W0.heap.size ≤ WA.heap.size) (hE : W0.heap.size ≤ WE.heap.size) (h06 : WA.heap.size ≤ w6.heap.size) (hx : x < W0.heap.size) (hS : ∀ k, S k → k < w.heap.size)
    (G6 : Rg (fun k => k < WA.heap.size) w6 D' ks' A' c' B' d') (TG : Turn (fun k => S k ∨ k = x) w6 WF) (Q5 : Dq S' w5 p D') (X5 : Stp S WE S' w5) (TQ : Turn (fun k => k = x) w5 WF) (TT : Turn (fun k => S k ∨ k = x) W0 WF)
    (hord : w5.heap.size ≤ WA.heap.size ∨ w6.heap.size ≤ WE.heap.size) (hk : D'.kept.length = D.kept.length) (hp : D'.pend.length ≤ D.pend.length + 1) :
    After S w D (.returned (.tuple #[.pointer (some ⟨p, 0, none⟩), rd D' ks' A' c' B' d', .bool true])) WF := by
  have s0 := T0.size
  have hTA : ∀ k, S k ∨ k = x → k < WA.heap.size := fun k hk => by
    rcases hk with h | h
    · have := hS k h; omega
    · omega
  have hx' : ∀ k, S' k → k ≠ x := fun k hk e => by
    rcases X5.2 k hk with h | h
    · have := hS k h; omega
    · omega
  have gk : ∀ b, (Value.slice A' ks'.length c').ownBlock = some b → ¬ S' b := fun b hb hs => by
    have l1 := own_lt_ G6.m.kept b hb
    have l2 := G6.k b hb
    rcases hord with ho | ho
    · have := Q5.lt b hs; omega
    · rcases X5.2 b hs with h | h
      · have := hS b h; omega
      · omega
  have gp : ∀ b, (Value.slice B' D'.pend.length d').ownBlock = some b → ¬ S' b := fun b hb hs => by
    have l1 := own_lt_ G6.m.pend b hb
    have l2 := G6.p b hb
    rcases hord with ho | ho
    · have := Q5.lt b hs; omega
    · rcases X5.2 b hs with h | h
      · have := hS b h; omega
      · omega
  have GF : Rm WF D' ks' A' c' B' d' := ⟨ownsRow_turn G6.m.kept TG (fun b hb h => G6.k b hb (hTA b h)), ownsRow_turn G6.m.pend TG (fun b hb h => G6.p b hb (hTA b h)), G6.m.full, G6.m.most⟩
  refine ⟨p, S', D', ks', A', c', B', d', rfl, Q5.turn TQ hx', ⟨GF, gk, gp⟩, ⟨(T0.mono (fun _ _ h => h.elim)).trans_new TT (fun k hk h => h.elim id (fun e => by omega)), fun k hk => ?_⟩, hk, hp⟩
  rcases X5.2 k hk with h | h
  · exact .inl h
  · exact .inr (by omega)
set_option maxRecDepth 100000 in
set_option maxHeartbeats 6000000 in
theorem step_2 {S : Nat → Prop} {w : World} {p : Nat} {D : Dsk} (h : Dq S w p D) {ks : List (List UInt8)} {A B : Option Addr} {c d : Nat} (g : Rg S w D ks A c B d) (hp : D.pend.length ≤ 900000) (ai : Int) (as_ : ByteArray) (A3 : Option Addr) (n3 c3 : Nat) (zs : List Int) (hn : zs.length = n3) (hz : Iv S w (.slice A3 n3 c3) zs) (hn3 : n3 ≤ 1000) :
    Calls Try.prog 14 #[.pointer (some ⟨p, 0, none⟩), rd D ks A c B d, .agg #[.int .i64 2, .int .i64 ai, .string as_, .slice A3 n3 c3]] w fun e w' => After S w D e w' := by
  obtain ⟨i0, hi0, hy1, hy2, hy3⟩ := info_parts Try.infoInt_
  have T0 := Lib.hid ((((Turn.refl (fun _ => False) w).alloc (.cells #[.int .i64 (D.kept.length : Int), .slice A ks.length c, .slice B D.pend.length d, .int .i64 D.fuse, .bool D.dead] 30)).alloc (.cells #[.int .i64 2, .int .i64 ai, .string as_, .slice A3 n3 c3] 39)).alloc (.cells #[.int .i64 0, .slice none 0 0, .slice none 0 0, .int .i64 0, .bool false] 30))
  have HR0 := Lib.hid (Blk.new_ ((w.alloc (.cells #[.int .i64 (D.kept.length : Int), .slice A ks.length c, .slice B D.pend.length d, .int .i64 D.fuse, .bool D.dead] 30)).alloc (.cells #[.int .i64 2, .int .i64 ai, .string as_, .slice A3 n3 c3] 39)) 30 [.int .i64 0, .slice none 0 0, .slice none 0 0, .int .i64 0, .bool false] (k := w.heap.size + 1 + 1) (by simp))
  have HB0 := Lib.hid (((Blk.new w 30 [.int .i64 (D.kept.length : Int), .slice A ks.length c, .slice B D.pend.length d, .int .i64 D.fuse, .bool D.dead]).alloc (.cells #[.int .i64 2, .int .i64 ai, .string as_, .slice A3 n3 c3] 39)).alloc (.cells #[.int .i64 0, .slice none 0 0, .slice none 0 0, .int .i64 0, .bool false] 30))
  have HA0 := Lib.hid ((Blk.new_ (w.alloc (.cells #[.int .i64 (D.kept.length : Int), .slice A ks.length c, .slice B D.pend.length d, .int .i64 D.fuse, .bool D.dead] 30)) 39 [.int .i64 2, .int .i64 ai, .string as_, .slice A3 n3 c3] (k := w.heap.size + 1) (by simp)).alloc (.cells #[.int .i64 0, .slice none 0 0, .slice none 0 0, .int .i64 0, .bool false] 30))
  have HQ := Lib.hid h
  have HZ := Lib.hid ((hz.plus_ (x := w.heap.size + 1 + 1) (by omega)).turn T0.out (fun _ h => h.elim))
  have HN := Lib.hid hn
  have hlt := Lib.hid h.lt
  have OK := Lib.hid h.1
  have H0 := Lib.hid ((HQ.out.still T0.out))
  have HG0 := Lib.hid ((g.plus (x := w.heap.size + 1 + 1) (by omega)).still T0.out)
  have fl : Hid ((D.crashed zs).kept.length = D.kept.length ∧ (D.crashed zs).pend.length ≤ D.pend.length + 1) := Lib.hid ⟨(crash_len D zs).1, by rw [(crash_len D zs).2]; exact Nat.zero_le _⟩
  have HS0 : Hid ((((w.alloc (.cells #[.int .i64 (D.kept.length : Int), .slice A ks.length c, .slice B D.pend.length d, .int .i64 D.fuse, .bool D.dead] 30)).alloc (.cells #[.int .i64 2, .int .i64 ai, .string as_, .slice A3 n3 c3] 39)).alloc (.cells #[.int .i64 0, .slice none 0 0, .slice none 0 0, .int .i64 0, .bool false] 30)).heap.size = w.heap.size + 1 + 1 + 1) := Lib.hid (by simp)
  have hzl : Hid (zs.length ≤ 9223372036854775807 ∧ n3 ≤ 1000) := Lib.hid ⟨by omega, hn3⟩
  unfold rd at *
  clear h g hz hn
  go_enter Try.func14, Try.ntmps14
  go_wp2_with fail
  obtain ⟨W0, hW0⟩ : ∃ W0, (((w.alloc (.cells #[.int .i64 (D.kept.length : Int), .slice A ks.length c, .slice B D.pend.length d, .int .i64 D.fuse, .bool D.dead] 30)).alloc (.cells #[.int .i64 2, .int .i64 ai, .string as_, .slice A3 n3 c3] 39)).alloc (.cells #[.int .i64 0, .slice none 0 0, .slice none 0 0, .int .i64 0, .bool false] 30)) = W0 := ⟨_, rfl⟩
  rw [hW0] at T0 HR0 HB0 HA0 HZ H0 HG0 HS0 ⊢
  have HF : Hid (∀ W, Hid (Turn (fun k => S k ∨ k = w.heap.size + 1 + 1) W0 W) → Calls Try.prog 37 #[.agg #[.int .i64 (D.kept.length : Int), .slice A ks.length c, .slice B D.pend.length d, .int .i64 D.fuse, .bool D.dead], .slice A3 n3 c3] W fun e w' => ∃ v, e = .returned v ∧ ∃ ks' A' c' B' d', v = .agg #[.int .i64 ((D.crashed zs).kept.length : Int), .slice A' ks'.length c', .slice B' (D.crashed zs).pend.length d', .int .i64 (D.crashed zs).fuse, .bool (D.crashed zs).dead] ∧ Rg (fun k => k < W.heap.size) w' (D.crashed zs) ks' A' c' B' d' ∧ Turn (fun _ => False) W w' ∧ W0.heap.size ≤ W.heap.size) :=
    Lib.hid (fun W ht => (crash_new (HG0.out.turn ht.out) OK.out (by omega) _ zs hzl.out.1 ((HZ.out.turn ht.out (fun _ h => h)).less (fun _ h => h.elim))).mono (by rintro e w' ⟨v, he, ks', A', c', B', d', hv, h1, h2⟩; exact ⟨v, he, ks', A', c', B', d', hv, h1, h2, ht.out.size⟩))
  have HE : Hid (∀ W v, Hid (Turn (fun _ => False) W0 W) → Hid (Iv S W v zs) → Calls Try.prog 33 #[.pointer (some ⟨p, 0, none⟩), v] W fun e w' => ∃ v, e = .returned v ∧ v = .int .i64 0 ∧ ∃ S', Dq S' w' p (D.crashed zs) ∧ Stp S W S' w') :=
    Lib.hid (fun W v ht hv => (crash_dq (H0.out.still ht.out) (by omega) v zs hzl.out.1 hv.out).mono (by rintro e w' ⟨rfl, S', h1, h2⟩; exact ⟨_, rfl, rfl, S', h1, h2⟩))
  have HAP : Hid (∀ W, Hid (Turn (fun _ => False) W0 W) → Iv (fun _ => False) W (.slice A3 n3 c3) zs) := Lib.hid (fun W ht => (HZ.out.turn ht.out (fun _ h => h.elim)).less (fun _ h => h.elim))
  have SL : Hid (∀ W, Hid (Turn (fun _ => False) W0 W) → ∀ k, S k → k < W.heap.size) := Lib.hid (fun W ht k hk => by have := hlt.out k hk; have := T0.out.size; have := ht.out.size; omega)
  generalize D.crashed zs = D' at *
  have SC : Hid (∀ W, Hid (Turn (fun k => S k ∨ k = w.heap.size + 1 + 1) W0 W) → W.cell? ⟨w.heap.size, 0, none⟩ = some (.int .i64 (D.kept.length : Int)) ∧ W.cell? ⟨w.heap.size, 1, none⟩ = some (.slice A ks.length c) ∧ W.cell? ⟨w.heap.size, 2, none⟩ = some (.slice B D.pend.length d) ∧ W.cell? ⟨w.heap.size, 3, none⟩ = some (.int .i64 D.fuse) ∧ W.cell? ⟨w.heap.size, 4, none⟩ = some (.bool D.dead) ∧ W.cell? ⟨w.heap.size + 1, 3, none⟩ = some (.slice A3 n3 c3)) := Lib.hid (fun W ht => by
    have hb := HB0.out.turn ht.out (fun h => by rcases h with h | h; (have := hlt.out _ h; omega); omega)
    have ha := HA0.out.turn ht.out (fun h => by rcases h with h | h; (have := hlt.out _ h; omega); omega)
    exact ⟨hb.cell 0, hb.cell 1, hb.cell 2, hb.cell 3, hb.cell 4, ha.cell 3⟩)
  have TT : Hid (Turn (fun k => S k ∨ k = w.heap.size + 1 + 1) W0 W0.drew) := Lib.hid ((Turn.refl _ _).drew)
  have TX : Hid (Turn (fun _ => False) W0 W0.drew) := Lib.hid ((Turn.refl _ _).drew)
  clear hW0
  go_region_held3 (fun W => W.cell? ⟨w.heap.size, 0, none⟩ = some (.int .i64 (D.kept.length : Int)) ∧ W.cell? ⟨w.heap.size, 1, none⟩ = some (.slice A ks.length c) ∧ W.cell? ⟨w.heap.size, 2, none⟩ = some (.slice B D.pend.length d) ∧ W.cell? ⟨w.heap.size, 3, none⟩ = some (.int .i64 D.fuse) ∧ W.cell? ⟨w.heap.size, 4, none⟩ = some (.bool D.dead) ∧ W.cell? ⟨w.heap.size + 1, 3, none⟩ = some (.slice A3 n3 c3))
    (first
      | exact SC.out _ TT
      | exact SC.out _ (Lib.hid (TT.out.alloc _))
      | exact SC.out _ (Lib.hid (((((TT.out.setCell (p := ⟨w.heap.size + 1 + 1, 0, none⟩) (.inl (.inr rfl)) _).setCell (p := ⟨w.heap.size + 1 + 1, 1, none⟩) (.inl (.inr rfl)) _).setCell (p := ⟨w.heap.size + 1 + 1, 2, none⟩) (.inl (.inr rfl)) _).setCell (p := ⟨w.heap.size + 1 + 1, 3, none⟩) (.inl (.inr rfl)) _).setCell (p := ⟨w.heap.size + 1 + 1, 4, none⟩) (.inl (.inr rfl)) _)))
    (first
      | (refine step_call rfl 37 Try.f37 _ _ rfl Try.func37 (by kernel_rfl) (by kernel_rfl) _ _ (HF.out _ (by first | exact TT | exact Lib.hid (TT.out.alloc _))) (by go_simp) ?_
         rintro v6 w6 ⟨ks', A', c', B', d', rfl, hg6, ht6, ha6⟩
         have G6 := Lib.hid hg6
         have S6 := Lib.hid ht6.size
         have A6 := Lib.hid ha6
         have TT : Hid (Turn (fun k => S k ∨ k = w.heap.size + 1 + 1) W0 w6) := Lib.hid (by first | exact TT.out.trans (ht6.mono (fun _ _ h => h.elim)) | exact (TT.out.alloc _).trans (ht6.mono (fun _ _ h => h.elim)))
         have TX : Hid (Turn (fun _ => False) W0 w6) := Lib.hid (by first | exact TX.out.trans (ht6.mono (fun _ _ h => h.elim)) | exact (TX.out.alloc _).trans (ht6.mono (fun _ _ h => h.elim)))
         have TG : Hid (Turn (fun k => S k ∨ k = w.heap.size + 1 + 1) w6 w6) := Lib.hid (Turn.refl _ _)
         clear hg6 ht6 ha6)
      | (refine step_app_ints_ rfl _ _ 37 rfl 3 i0 Try.underlying37 hi0 hy1 hy2 hy3 _ n3 c3 A3 zs rfl rfl HN.out (HAP.out _ (by first | exact TX | exact Lib.hid (TX.out.alloc _))) hzl.out.2 ?_
         rintro v7 w7 ⟨A7, c7, rfl, hiv⟩ ht7
         have TT : Hid (Turn (fun k => S k ∨ k = w.heap.size + 1 + 1) W0 w7) := Lib.hid (by first | exact TT.out.trans (ht7.mono (fun _ _ h => h.elim)) | exact (TT.out.alloc _).trans (ht7.mono (fun _ _ h => h.elim)))
         have IV := Lib.hid (hiv S (SL.out _ (by first | exact TX | exact Lib.hid (TX.out.alloc _))))
         have TX : Hid (Turn (fun _ => False) W0 w7) := Lib.hid (by first | exact TX.out.trans (ht7.mono (fun _ _ h => h.elim)) | exact (TX.out.alloc _).trans (ht7.mono (fun _ _ h => h.elim)))
         have TG : Hid (Turn (fun k => S k ∨ k = w.heap.size + 1 + 1) w6 w7) := Lib.hid (by first | exact TG.out.trans (ht7.mono (fun _ _ h => h.elim)) | exact (TG.out.alloc _).trans (ht7.mono (fun _ _ h => h.elim)))
         clear hiv ht7)
      | (refine step_call rfl 33 Try.f33 _ _ rfl Try.func33 (by kernel_rfl) (by kernel_rfl) _ _ (HE.out _ _ TX IV) (by go_simp) ?_
         rintro v5 w5 ⟨rfl, S', hq5, hs5⟩
         have Q5 := Lib.hid hq5
         have X5 := Lib.hid hs5
         have OR := Lib.hid TG.out.size
         have EE := Lib.hid TX.out.size
         have TT : Hid (Turn (fun k => S k ∨ k = w.heap.size + 1 + 1) W0 w5) := Lib.hid (TT.out.trans (hs5.1.mono (fun _ _ h => .inl h)))
         have TG : Hid (Turn (fun k => S k ∨ k = w.heap.size + 1 + 1) w6 w5) := Lib.hid (TG.out.trans (hs5.1.mono (fun _ _ h => .inl h)))
         have hr5 : Blk w5 (w.heap.size + 1 + 1) 30 [.int .i64 0, .slice none 0 0, .slice none 0 0, .int .i64 0, .bool false] := ((HR0.out.turn TX.out (fun h => h)).turn hs5.1 (fun h => by have := hlt.out _ h; omega))
         have HR5 := Lib.hid hr5
         have r0 := hr5.cell 0
         have r1 := hr5.cell 1
         have r2 := hr5.cell 2
         have r3 := hr5.cell 3
         have r4 := hr5.cell 4
         have g0 := hr5.free 0
         have g1 := hr5.free 1
         have g2 := hr5.free 2
         have g3 := hr5.free 3
         have g4 := hr5.free 4
         simp only [List.getElem?_cons_zero, List.getElem?_cons_succ] at r0 r1 r2 r3 r4
         clear hq5 hs5 hr5))
  all_goals
    rename_i hHeld
    clear hHeld
    go_wp2
    have hf := ((((HR5.out.put 0 (.int .i64 (D'.kept.length : Int))).put 1 (.slice A' ks'.length c')).put 2 (.slice B' D'.pend.length d')).put 3 (.int .i64 D'.fuse)).put 4 (.bool D'.dead)
    have tf := (((((Turn.refl (fun k => k = w.heap.size + 1 + 1) w5).setCell (p := ⟨w.heap.size + 1 + 1, 0, none⟩) (.inl rfl) (.int .i64 (D'.kept.length : Int))).setCell (p := ⟨w.heap.size + 1 + 1, 1, none⟩) (.inl rfl) (.slice A' ks'.length c')).setCell (p := ⟨w.heap.size + 1 + 1, 2, none⟩) (.inl rfl) (.slice B' D'.pend.length d')).setCell (p := ⟨w.heap.size + 1 + 1, 3, none⟩) (.inl rfl) (.int .i64 D'.fuse)).setCell (p := ⟨w.heap.size + 1 + 1, 4, none⟩) (.inl rfl) (.bool D'.dead)
    have e0 := hf.cell 0
    have e1 := hf.cell 1
    have e2 := hf.cell 2
    have e3 := hf.cell 3
    have e4 := hf.cell 4
    simp only [List.set_cons_zero, List.set_cons_succ, List.getElem?_cons_zero, List.getElem?_cons_succ] at e0 e1 e2 e3 e4
    have HTF := Lib.hid tf
    clear r0 r1 r2 r3 r4 g0 g1 g2 g3 g4 tf hf
    generalize (((((w5.setCell ⟨w.heap.size + 1 + 1, 0, none⟩ (.int .i64 (D'.kept.length : Int))).setCell ⟨w.heap.size + 1 + 1, 1, none⟩ (.slice A' ks'.length c')).setCell ⟨w.heap.size + 1 + 1, 2, none⟩ (.slice B' D'.pend.length d')).setCell ⟨w.heap.size + 1 + 1, 3, none⟩ (.int .i64 D'.fuse)).setCell ⟨w.heap.size + 1 + 1, 4, none⟩ (.bool D'.dead)) = WF at *
    have mo : ∀ k, k = w.heap.size + 1 + 1 → S k ∨ k = w.heap.size + 1 + 1 := fun _ h => .inr h
    exact bodyPost_ret (v := .tuple #[.pointer (some ⟨p, 0, none⟩), .agg #[.int .i64 (D'.kept.length : Int), .slice A' ks'.length c', .slice B' D'.pend.length d', .int .i64 D'.fuse, .bool D'.dead], .bool true]) (by simp [results, Try.results14, go_sem, e0, e1, e2, e3, e4]) rfl (after2_ (x := w.heap.size + 1 + 1) (by omega) T0.out A6.out EE.out S6.out (by have := HS0.out; omega) hlt.out G6.out (TG.out.trans (HTF.out.mono (fun k _ h => mo k h))) Q5.out X5.out HTF.out (TT.out.trans (HTF.out.mono (fun k _ h => mo k h))) (.inr OR.out) fl.out.1 fl.out.2)
end Go.Proofs.Ytbjenimpfblojaa
