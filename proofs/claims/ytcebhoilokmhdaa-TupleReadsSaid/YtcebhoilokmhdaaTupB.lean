/- Layer 2: appendWord, appendText, appendPart, Encode. -/
import Derived.Test.YtcebhoilokmhdaaTupA
import Derived.Test.YtcebhoilokmhdaaCore
import Derived.Deep.RegionLaw
namespace Go.Proofs.Ytcebhoilokmhdaa
open Go.RowKit
set_option linter.unusedVariables false

theorem sl_blk {w : World} {g t c : Nat} {m : List UInt8} (h : Blk w g t (bv m)) (hc : m.length ≤ c) (hm : c ≤ maxLen) : Sl w (g + 1) (.slice (some ⟨g, 0, none⟩) m.length c) m := by
  refine ⟨_, c, rfl, fun _ => ⟨_, rfl, rfl, Nat.lt_succ_self _, fun j u hj => ?_⟩, hm, (fun h => by cases h), hc⟩
  rw [show (⟨g, 0, none⟩ : Addr).add j = ⟨g, j, none⟩ from by unfold Addr.add; split <;> simp_all, h.cell, bv_at, hj]; rfl

theorem turn_grown {w w' : World} {r : Option Nat} (h : w.grownBy w' r) : Turn (fun k => r = some k) w w' := ⟨h.os, h.tape, h.output, h.size, fun k hk hn => h.block k hk fun e => hn e.symm⟩
theorem own_below {w w' : World} {base e n : Nat} {v : Value} {xs : List Value} (h : w.ownsRow base e 1 v n xs) (ht : Turn (fun k => v.ownBlock = some k) w w') (hb : base ≤ w.heap.size) : Below base w w' :=
  ht.below hb fun k hk => (h.lt k hk).1
theorem own_far {w w' : World} {base e n g t : Nat} {v : Value} {xs cs : List Value} (h : w.ownsRow base e 1 v n xs) {wa : World} (ht : Turn (fun k => v.ownBlock = some k) wa w') (hg : Blk wa g t cs) (hw : w.heap.size ≤ g) : Blk w' g t cs :=
  hg.turn ht fun hk => by have := (h.lt g hk).2; omega

section
variable {P : Program} {w : World}
/-- append of the bytes of a new block to a row of the call's own. -/
theorem wpList_push {ops : Array Oper} {rest : List Oper} {o : Oper} {a : Act} {Q : Exit → Act → World → Prop} (hgd : o.guard = none) (s y : Operand) (t : TypeId)
    (ho : o.op = .call { callee := .builtin .append, args := #[s, y], argTypes := #[t, t] })
    (base : Nat) (e : TypeId) (i : TypeInfo) (ht : P.underlying t = some (.slice e)) (hi : P.info? e = some i) (hz : i.zero = some (.int .u8 0)) (hsize : i.size = 1) (hby : i.bytes = 1)
    (v : Value) (l : List UInt8) (hs : a.eval s = v) (hown : w.ownsRow base e 1 v l.length (bv l)) (g c : Nat) (m : List UInt8) (hy : a.eval y = .slice (some ⟨g, 0, none⟩) c c) (hc : m.length = c) (hm : c ≤ 1000) (t' : TypeId) (hb : Blk w g t' (bv m))
    (hl : l.length ≤ 140737488300000) (hbase : base ≤ w.heap.size)
    (h : ∀ v' w', w'.ownsRow base e 1 v' (l ++ m).length (bv (l ++ m)) → Turn (fun k => v.ownBlock = some k) w w' → wpList P ops Q rest (a.put o.dst v') w') : wpList P ops Q (o :: rest) a w := by
  subst hc
  refine wpList_app_bytes w hgd s y t ho base (g + 1) e i ht hi hz hsize hby v _ l m hs hy hown (sl_blk hb (Nat.le_refl _) (by unfold maxLen; omega)) (by omega) hbase fun v' w' h1 h2 => h v' w' h1 (turn_grown h2)
theorem step_push {ops : Array Oper} {o : Oper} {a : Act} {K : Act → World → Prop} {Q : Exit → Act → World → Prop} {E : Prop} (hgd : o.guard = none) (s y : Operand) (t : TypeId)
    (ho : o.op = .call { callee := .builtin .append, args := #[s, y], argTypes := #[t, t] })
    (base : Nat) (e : TypeId) (i : TypeInfo) (ht : P.underlying t = some (.slice e)) (hi : P.info? e = some i) (hz : i.zero = some (.int .u8 0)) (hsize : i.size = 1) (hby : i.bytes = 1)
    (v : Value) (l : List UInt8) (hs : a.eval s = v) (hown : w.ownsRow base e 1 v l.length (bv l)) (g c : Nat) (m : List UInt8) (hy : a.eval y = .slice (some ⟨g, 0, none⟩) c c) (hc : m.length = c) (hm : c ≤ 1000) (t' : TypeId) (hb : Blk w g t' (bv m))
    (hl : l.length ≤ 140737488300000) (hbase : base ≤ w.heap.size)
    (h : ∀ v' w', w'.ownsRow base e 1 v' (l ++ m).length (bv (l ++ m)) → Turn (fun k => v.ownBlock = some k) w w' → K (a.put o.dst v') w') :
    if Region.wanted o (yielded ops a.tmps) = true then Oper.wp P o a w K Q else E := by
  subst hc
  refine step_app_bytes w hgd s y t ho base (g + 1) e i ht hi hz hsize hby v _ l m hs hy hown (sl_blk hb (Nat.le_refl _) (by unfold maxLen; omega)) (by omega) hbase fun v' w' h1 h2 => h v' w' h1 (turn_grown h2)
end

set_option maxRecDepth 100000 in
set_option maxHeartbeats 1000000 in
theorem appendWord_any (B : Nat) (v : Value) (l : List UInt8) (u : Int) (h0 : 0 ≤ u) (h1 : u ≤ 18446744073709551615) (w : World) (ho : w.ownsRow B 5 1 v l.length (bv l)) (hB : B ≤ w.heap.size) (hl : l.length ≤ 100000) :
    Calls Try.prog 94 #[v, .int .u64 u] w fun e w' => ∃ v', e = .returned v' ∧ w'.ownsRow B 5 1 v' (l ++ fld 8 u).length (bv (l ++ fld 8 u)) ∧ Below B w w' := by
  obtain ⟨i0, hi, hz0, hz1, hz2⟩ := info_parts Try.info5
  go_enter Try.func94, Try.ntmps94
  go_wp2
  go_loopw [0, 6] (fun o i wr => ∃ j : Nat, j ≤ 8 ∧ i = .int .i64 j ∧ wr.ownsRow B 5 1 o (l ++ fldTo 8 u j).length (bv (l ++ fldTo 8 u j)) ∧ Below B w wr) (fun _ i _ => (8 - intOf i).toNat)
  case atStart => exact ⟨0, Nat.zero_le _, by go_num, by simpa [fldTo] using ho, Below.refl _ _⟩
  case round =>
    clear ho
    obtain ⟨j, hj, rfl, hown, hb⟩ := hrel
    have HO := Lib.hid hown
    clear hown
    by_cases hlt : j < 8
    · have hlen : (l ++ fldTo 8 u j).length ≤ 100008 := by simp [len_fldTo]; omega
      have hz := hb.size
      have HLEN := Lib.hid hlen
      clear hlen
      go_wp2_with (at_builtin; refine wpList_push rfl _ _ 22 rfl B 5 i0 Try.underlying22 hi hz0 hz1 hz2 _ _ rfl (HO.out.alloc _) wr.heap.size 1 [fbyte 8 u j] rfl rfl (by decide) 5 (by unfold bv; rw [List.map_cons, u8v_fbyte]; exact Blk.new _ _ _) (by have := HLEN.out; omega) (by simp; omega) ?_; intro v' w1 ho1 ht1; have hb1 := own_below (HO.out.alloc _) ht1 (by simp; omega); rw [List.append_assoc, ← fldTo_succ] at ho1; have HO1 := Lib.hid ho1; clear ho1)
      go_roundw
      case rel => exact ⟨j + 1, by omega, by go_num, HO1.out, (hb.alloc (by omega) _).trans hb1⟩
      case measure => simp [intOf]; omega
    · obtain rfl : j = 8 := by omega
      go_wp2
      go_ret
      exact ⟨_, rfl, HO.out, hb⟩

theorem esc_take_succ (s : ByteArray) (j : Nat) (h : j < s.size) : esc (s.data.toList.take (j + 1)) = esc (s.data.toList.take j) ++ (if s[j] = 0 then [0, 255] else [s[j]]) := by
  rw [List.take_succ_eq_append_getElem (by simpa using h), esc_app]
  simp [esc]
  rfl

set_option maxRecDepth 100000 in
set_option maxHeartbeats 1000000 in
theorem appendText_any (B : Nat) (v : Value) (l : List UInt8) (s : ByteArray) (w : World) (ho : w.ownsRow B 5 1 v l.length (bv l)) (hB : B ≤ w.heap.size) (hl : l.length ≤ 100000) (hs : s.size ≤ 100000) :
    Calls Try.prog 93 #[v, .string s] w fun e w' => ∃ v', e = .returned v' ∧ w'.ownsRow B 5 1 v' (l ++ (esc s.data.toList ++ [0, 1])).length (bv (l ++ (esc s.data.toList ++ [0, 1]))) ∧ Below B w w' := by
  obtain ⟨i0, hi, hz0, hz1, hz2⟩ := info_parts Try.info5
  have hlen : ∀ j, (l ++ esc (s.data.toList.take j)).length ≤ 300100 := fun j => by
    have h1 := List.count_le_length (a := (0 : UInt8)) (l := s.data.toList.take j)
    have h2 : (s.data.toList.take j).length ≤ s.size := by rw [List.length_take, len_ba]; omega
    rw [List.length_append, len_esc]; omega
  have HLEN := Lib.hid hlen
  clear hlen
  go_enter Try.func93, Try.ntmps93
  go_wp2
  go_loopw [0, 8] (fun o i wr => ∃ j : Nat, j ≤ s.size ∧ i = .int .i64 j ∧ wr.ownsRow B 5 1 o (l ++ esc (s.data.toList.take j)).length (bv (l ++ esc (s.data.toList.take j))) ∧ Below B w wr) (fun _ i _ => (s.size - intOf i).toNat)
  case atStart => exact ⟨0, Nat.zero_le _, by go_num, by simpa [esc] using ho, Below.refl _ _⟩
  case round =>
    clear ho
    obtain ⟨j, hj, rfl, hown, hb⟩ := hrel
    have HO := Lib.hid hown
    clear hown
    by_cases hlt : j < s.size
    · have hlen := HLEN.out j
      have hz := hb.size
      have HE := Lib.hid (esc_take_succ s j hlt)
      have HL2 := Lib.hid (show (l ++ esc (s.data.toList.take j)).length ≤ 300100 ∧ (l ++ esc (s.data.toList.take j) ++ [s[j]]).length ≤ 300101 from ⟨hlen, by rw [List.length_append]; simp at hlen ⊢; omega⟩)
      clear hlen
      by_cases hc0 : s[j] = 0
      · have hq : ((s[j].toNat : Int) == 0) = true := by rw [hc0]; rfl
        have HC0 := Lib.hid hc0
        clear hc0
        go_wp2_with (first
          | (at_builtin; refine wpList_push rfl _ (.tmp 15) 22 rfl B 5 i0 Try.underlying22 hi hz0 hz1 hz2 _ _ rfl (HO.out.alloc _) wr.heap.size 1 [s[j]] rfl rfl (by decide) 5 (Blk.new _ _ _) (by have := HL2.out; omega) (by simp; omega) ?_; intro v' w1 ho1 ht1; have hb1 := own_below (HO.out.alloc _) ht1 (by simp; omega); have HO1 := Lib.hid ho1; have hzz := hb1.size; simp at hzz; clear ho1)
          | (at_builtin; refine wpList_push rfl _ (.tmp 22) 22 rfl B 5 i0 Try.underlying22 hi hz0 hz1 hz2 _ _ rfl (HO1.out.alloc _) w1.heap.size 1 [255] rfl rfl (by decide) 5 (Blk.new _ _ _) (by have := HL2.out; omega) (by simp; omega) ?_; intro v2 w2 ho2 ht2; have hb2 := own_below (HO1.out.alloc _) ht2 (by simp; omega); have HO2 := Lib.hid ho2; clear ho2))
        go_roundw
        case rel => exact ⟨j + 1, by omega, by go_num, by have := HO2.out; rw [HE.out, if_pos HC0.out]; rw [HC0.out, List.append_assoc, List.append_assoc] at this; exact this, (((hb.alloc (by omega) _).trans hb1).alloc (by omega) _).trans hb2⟩
        case measure => simp [intOf]; omega
      · have hq : ((s[j].toNat : Int) == 0) = false := by
          have : s[j].toNat ≠ 0 := fun e => hc0 (UInt8.toNat_inj.1 (by simpa using e))
          simpa using this
        have HC0 := Lib.hid hc0
        clear hc0
        go_wp2_with (at_builtin; refine wpList_push rfl _ (.tmp 15) 22 rfl B 5 i0 Try.underlying22 hi hz0 hz1 hz2 _ _ rfl (HO.out.alloc _) wr.heap.size 1 [s[j]] rfl rfl (by decide) 5 (Blk.new _ _ _) (by have := HL2.out; omega) (by simp; omega) ?_; intro v' w1 ho1 ht1; have hb1 := own_below (HO.out.alloc _) ht1 (by simp; omega); have HO1 := Lib.hid ho1; clear ho1)
        go_roundw
        case rel => exact ⟨j + 1, by omega, by go_num, by have := HO1.out; rw [HE.out, if_neg HC0.out]; rw [List.append_assoc] at this; exact this, (hb.alloc (by omega) _).trans hb1⟩
        case measure => simp [intOf]; omega
    · obtain rfl : j = s.size := by omega
      have hlen := HLEN.out s.size
      rw [show s.data.toList.take s.size = s.data.toList from List.take_of_length_le (by simp)] at HO hlen
      have hz := hb.size
      have HL2 := Lib.hid hlen
      clear hlen
      go_wp2_with (at_builtin; refine wpList_push rfl _ (.tmp 26) 22 rfl B 5 i0 Try.underlying22 hi hz0 hz1 hz2 _ _ rfl (HO.out.alloc _) wr.heap.size 2 [0, 1] rfl rfl (by decide) 5 (Blk.new _ _ _) (by have := HL2.out; omega) (by simp; omega) ?_; intro v' w1 ho1 ht1; have hb1 := own_below (HO.out.alloc _) ht1 (by simp; omega); rw [List.append_assoc] at ho1; have HO1 := Lib.hid ho1; clear ho1)
      go_ret
      exact ⟨_, rfl, HO1.out, (hb.alloc (by omega) _).trans hb1⟩

/-- appendText's call, as a step. -/
theorem appendText_v (B : Nat) (v : Value) (l : List UInt8) (s : ByteArray) (w : World) (ho : w.ownsRow B 5 1 v l.length (bv l)) (hB : B ≤ w.heap.size) (hl : l.length ≤ 100000) (hs : s.size ≤ 100000) :
    Calls Try.prog 93 #[v, .string s] w fun e w' => ∃ v', e = .returned v' ∧ (w'.ownsRow B 5 1 v' (l ++ (esc s.data.toList ++ [0, 1])).length (bv (l ++ (esc s.data.toList ++ [0, 1]))) ∧ Below B w w') :=
  appendText_any B v l s w ho hB hl hs

set_option maxRecDepth 100000 in
set_option maxHeartbeats 1000000 in
theorem appendPart_any (B : Nat) (v : Value) (l : List UInt8) (k n : Int) (s : ByteArray) (w : World) (ho : w.ownsRow B 5 1 v l.length (bv l)) (hB : B ≤ w.heap.size) (hl : l.length ≤ 90000) (hs : s.size ≤ 100000)
    (hp : prt k n s = true) (h0 : -9223372036854775808 ≤ n) (h1 : n ≤ 9223372036854775807) :
    Calls Try.prog 64 #[v, .agg #[.int .i64 k, .int .i64 n, .string s]] w fun e w' => ∃ v', e = .returned v' ∧ w'.ownsRow B 5 1 v' (l ++ pby k n s).length (bv (l ++ pby k n s)) ∧ Below B w w' := by
  obtain ⟨i0, hi, hz0, hz1, hz2⟩ := info_parts Try.info5
  have HO := Lib.hid ho
  clear ho
  rcases prt_cases hp with ⟨rfl, rfl⟩ | ⟨rfl, _⟩ | ⟨rfl, _⟩
  · have HP := Lib.hid (show pby 1 0 s = [2] ++ (esc s.data.toList ++ [0, 1]) from rfl)
    clear hp
    go_enter Try.func64, Try.ntmps64
    go_wp2
    go_region_law (first
      | (refine step_push rfl _ _ 22 rfl B 5 i0 Try.underlying22 hi hz0 hz1 hz2 _ _ rfl (by first | exact ((HO.out.alloc _).alloc _).drew | exact ((HO.out.alloc _).drew).alloc _) _ 1 [2] rfl rfl (by decide) 5 (by first | exact Blk.new_ _ _ _ (by simp) | exact (Blk.new_ _ _ _ (by simp)).drew) (by omega) (by simp; omega) ?_; intro v' w1 ho1 ht1; have hb1 := ht1.below (B := B) (by simp; omega) (fun k hk => (HO.out.lt k hk).1); have hx := own_far HO.out ht1 (g := w.heap.size) (t := 88) (cs := [.int .i64 1, .int .i64 0, .string s]) (by first | exact ((Blk.new w _ _).alloc _).drew | exact ((Blk.new w _ _).drew).alloc _ | exact (Blk.new w _ _).alloc _) (Nat.le_refl _); have c0 : w1.cell? ⟨w.heap.size, 0, none⟩ = some (.int .i64 1) := hx.cell 0; have c1 : w1.cell? ⟨w.heap.size, 1, none⟩ = some (.int .i64 0) := hx.cell 1; have c2 : w1.cell? ⟨w.heap.size, 2, none⟩ = some (.string s) := hx.cell 2; have hzz := hb1.size; simp at hzz; have hlt : w.heap.size < w1.heap.size := hx.lt; have HO1 := Lib.hid ho1; clear ho1 hx ht1)
      | (refine step_call rfl 93 Try.f93 _ _ rfl Try.func93 (by kernel_rfl) (by kernel_rfl) _ _ (appendText_v B _ (l ++ [2]) s _ (by simpa using HO1.out) (by omega) (by simp; omega) hs) (by go_simp) ?_; rintro v5 w5 ⟨ho5, hb5⟩; have HO5 := Lib.hid ho5; clear ho5))
    all_goals (go_wp2; go_ret; rw [HP.out, ← List.append_assoc]; refine ⟨v5, rfl, by simpa using HO5.out, ?_⟩; first | exact ((((Below.refl B _).alloc hB _).alloc (by simp; omega) _).drew.trans hb1).trans hb5 | exact ((((Below.refl B _).alloc hB _).drew.alloc (by simp; omega) _).trans hb1).trans hb5)
  · have HP := Lib.hid (show pby 2 n s = [3] ++ fld 8 (tn 2 n) from rfl)
    have ht := tn_range (k := 2) h0 h1
    clear hp
    go_enter Try.func64, Try.ntmps64
    go_wp2_with (first
      | (at_builtin; refine wpList_push rfl _ _ 22 rfl B 5 i0 Try.underlying22 hi hz0 hz1 hz2 _ _ rfl ((HO.out.alloc _).alloc _) _ 1 [3] rfl rfl (by decide) 5 (by first | exact Blk.new_ _ _ _ (by simp) | exact (Blk.new_ _ _ _ (by simp)).drew) (by omega) (by simp; omega) ?_; intro v' w1 ho1 ht1; have hb1 := ht1.below (B := B) (by simp; omega) (fun k hk => (HO.out.lt k hk).1); have hx := own_far HO.out ht1 (g := w.heap.size) (t := 88) (cs := [.int .i64 2, .int .i64 n, .string s]) (by first | exact ((Blk.new w _ _).alloc _).drew | exact ((Blk.new w _ _).drew).alloc _ | exact (Blk.new w _ _).alloc _) (Nat.le_refl _); have c0 : w1.cell? ⟨w.heap.size, 0, none⟩ = some (.int .i64 2) := hx.cell 0; have c1 : w1.cell? ⟨w.heap.size, 1, none⟩ = some (.int .i64 n) := hx.cell 1; have c2 : w1.cell? ⟨w.heap.size, 2, none⟩ = some (.string s) := hx.cell 2; have hzz := hb1.size; simp at hzz; have hlt : w.heap.size < w1.heap.size := hx.lt; have HO1 := Lib.hid ho1; clear ho1 hx ht1)
      | (go_at_call 95; refine (turn_up 2 n h0 h1 _).mono ?_; rintro e w2 ⟨rfl, rfl⟩)
      | (go_at_call 94; refine (appendWord_any B _ (l ++ [3]) _ ht.1 ht.2 _ (by simpa using HO1.out) (by omega) (by simp; omega)).mono ?_; rintro e w3 ⟨v3, rfl, ho3, hb3⟩; have HO3 := Lib.hid ho3; clear ho3))
    go_ret
    rw [HP.out, ← List.append_assoc]
    exact ⟨_, rfl, HO3.out, (((((Below.refl B _).alloc hB _).alloc (by simp; omega) _)).trans hb1).trans hb3⟩
  · have HP := Lib.hid (show pby 3 n s = [4] ++ fld 8 (tn 3 n) from rfl)
    have ht := tn_range (k := 3) h0 h1
    clear hp
    go_enter Try.func64, Try.ntmps64
    go_wp2_with (first
      | (at_builtin; refine wpList_push rfl _ _ 22 rfl B 5 i0 Try.underlying22 hi hz0 hz1 hz2 _ _ rfl ((HO.out.alloc _).alloc _) _ 1 [4] rfl rfl (by decide) 5 (by first | exact Blk.new_ _ _ _ (by simp) | exact (Blk.new_ _ _ _ (by simp)).drew) (by omega) (by simp; omega) ?_; intro v' w1 ho1 ht1; have hb1 := ht1.below (B := B) (by simp; omega) (fun k hk => (HO.out.lt k hk).1); have hx := own_far HO.out ht1 (g := w.heap.size) (t := 88) (cs := [.int .i64 3, .int .i64 n, .string s]) (by first | exact ((Blk.new w _ _).alloc _).drew | exact ((Blk.new w _ _).drew).alloc _ | exact (Blk.new w _ _).alloc _) (Nat.le_refl _); have c0 : w1.cell? ⟨w.heap.size, 0, none⟩ = some (.int .i64 3) := hx.cell 0; have c1 : w1.cell? ⟨w.heap.size, 1, none⟩ = some (.int .i64 n) := hx.cell 1; have c2 : w1.cell? ⟨w.heap.size, 2, none⟩ = some (.string s) := hx.cell 2; have hzz := hb1.size; simp at hzz; have hlt : w.heap.size < w1.heap.size := hx.lt; have HO1 := Lib.hid ho1; clear ho1 hx ht1)
      | (go_at_call 95; refine (turn_up 3 n h0 h1 _).mono ?_; rintro e w2 ⟨rfl, rfl⟩)
      | (go_at_call 94; refine (appendWord_any B _ (l ++ [4]) _ ht.1 ht.2 _ (by simpa using HO1.out) (by omega) (by simp; omega)).mono ?_; rintro e w3 ⟨v3, rfl, ho3, hb3⟩; have HO3 := Lib.hid ho3; clear ho3))
    go_ret
    rw [HP.out, ← List.append_assoc]
    exact ⟨_, rfl, HO3.out, (((((Below.refl B _).alloc hB _).alloc (by simp; omega) _)).trans hb1).trans hb3⟩
end Go.Proofs.Ytcebhoilokmhdaa
