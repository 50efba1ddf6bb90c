/- Layer 16: the document's Check, and the reads that it makes. -/
import Derived.Test.YtjkfgbmlhglnfaaRdS
import Derived.Test.YtjkfgbmlhglnfaaRdK
namespace Go.Proofs.Ytjkfgbmlhglnfaa
open Go.RowKit Go.Shelf
set_option linter.unusedVariables false
set_option linter.unusedSimpArgs false
set_option maxRecDepth 100000
attribute [local go_sem] Oper.semAt_some

theorem refCheck_16 (L : List ByteArray) (S : List Pq2) (A1 : Option Addr) (n1 c1 : Nat) (A2 : Option Addr) (n2 c2 : Nat) (w : World) (hk : Kx w (.slice A1 n1 c1) L) (hs : Px w (.slice A2 n2 c2) S) (hzk : ∀ k ∈ L, Szd k) (hzs : ∀ s ∈ S, Szd s.k ∧ Szd s.v) :
    Calls Try.prog 24 #[.agg #[.slice A1 n1 c1, .slice A2 n2 c2]] w fun e w' => e = .returned (.int .i64 (if rgb16 L S then 0 else 4)) ∧ Turn (fun _ => False) w w' := by
  have HR := Lib.hid (fun W (hW : Turn (fun _ => False) w W) => refRight_16 L S A1 n1 c1 A2 n2 c2 W (hk.still hW) (hs.still hW) hzk hzs)
  have B1 : Hid (Blk (w.alloc (.cells #[.slice A1 n1 c1, .slice A2 n2 c2] 46)) w.heap.size 46 [.slice A1 n1 c1, .slice A2 n2 c2]) := Lib.hid (Blk.new _ _ _)
  have T1 : Hid (Turn (fun _ => False) w (w.alloc (.cells #[.slice A1 n1 c1, .slice A2 n2 c2] 46))) := Lib.hid ((Turn.refl _ _).alloc _)
  obtain ⟨x0, x1⟩ := cells2b16 B1.out
  clear hk hs
  cases hr : rgb16 L S with
  | true =>
    rw [hr] at HR
    go_enter Try.func24, Try.ntmps24
    go_wp2_with (go_at_call 56; refine (HR.out _ T1.out).mono ?_; rintro e w2 ⟨rfl, ht2⟩)
    go_ret
    exact ⟨rfl, T1.out.trans ht2⟩
  | false =>
    rw [hr] at HR
    go_enter Try.func24, Try.ntmps24
    go_wp2_with (go_at_call 56; refine (HR.out _ T1.out).mono ?_; rintro e w2 ⟨rfl, ht2⟩)
    go_ret
    exact ⟨rfl, T1.out.trans ht2⟩
theorem info_str16 : (Try.prog.info? 9).map (fun i => (i.zero, i.size, i.bytes)) = some (some (.string ⟨#[]⟩), 1, 16) := by kernel_rfl
theorem fill_str16 (s : ByteArray) (C : Array Value) (hC : C.size = 1) : Instr.fill (fun i => some (i * 1, 1)) C [(0, .string s)] = some #[.string s] := by
  obtain ⟨l⟩ := C
  match l, hC with
  | [x], _ => rfl
/-- A slice of one text, in a region that draws. -/
theorem step_build1s {w : World} {ops : Array Oper} {o : Oper} {a : Act} {K : Act → World → Prop} {Q : Exit → Act → World → Prop} {E : Prop} (hgd : o.guard = none) (t e : TypeId) (x : Operand) (ho : o.op = .buildSlice t 1 #[(0, x)])
    (s : ByteArray) (hx : a.eval x = .string s) (hu : Try.prog.underlying t = some (.slice e)) {z : Value} {m : Nat} (hi : (Try.prog.info? e).map (fun i => (i.zero, i.size, i.bytes)) = some (some z, 1, m))
    (h : K (a.put o.dst (.slice (some ⟨w.heap.size, 0, none⟩) 1 1)) (w.alloc (.cells #[.string s] e))) :
    if Region.wanted o (yielded ops a.tmps) = true then Oper.wp Try.prog o a w K Q else E := by
  have hw : Region.wanted o (yielded ops a.tmps) = true := by simp [Region.wanted, hgd]
  rw [if_pos hw]
  cases hi' : Try.prog.info? e with
  | none => rw [hi'] at hi; cases hi
  | some ie =>
    rw [hi'] at hi
    simp at hi
    obtain ⟨hz, hs, hb⟩ := hi
    refine wp_buildSlice t e 1 #[(0, x)] ho #[.string s] ie z hu hi' hz (by rw [hs]; omega) (by rw [hs]; omega) ?_ h
    simp only [List.map_toArray, List.map_cons, List.map_nil, hx, hs]
    exact fill_str16 s _ (by simp)
/-- What made holds: the result's box, the reads' box, a row of its own. -/
structure Md16 (w X : World) (B : Nat) (v : Value) (O : List ByteArray) : Prop where
  g : Blk X w.heap.size 46 [.slice none 0 0, .slice none 0 0]
  b : Blk X (w.heap.size + 1) 46 [v, .slice none 0 0]
  o : X.ownsRow (w.heap.size + 2) 9 1 v O.length (O.map Value.string)
  t : Turn (fun _ => False) w X
section
variable {w X X' : World} {B : Nat} {v v' : Value} {O O' : List ByteArray}
theorem Md16.still (h : Md16 w X B v O) (ht : Turn (fun _ => False) X X') : Md16 w X' B v O := ⟨h.g.turn ht (fun e => e), h.b.turn ht (fun e => e), own_still_ h.o ht, h.t.trans ht⟩
theorem Md16.ow (h : Md16 w X B v O) : ∀ k, v.ownBlock = some k → w.heap.size + 2 ≤ k ∧ k < X.heap.size := fun k hk => own_ge9 h.o k hk
/-- What made keeps of keys. -/
def mad16 (S : List Pq2) (K : List ByteArray) : List ByteArray := K.filter (fun k => !spd16 S k)
theorem mad_len (S : List Pq2) (K : List ByteArray) : (mad16 S K).length ≤ K.length := List.length_filter_le _ _
theorem mad_next (S : List Pq2) {K : List ByteArray} {i : Nat} {y : ByteArray} (h : K[i]? = some y) : mad16 S (K.take (i + 1)) = if spd16 S y then mad16 S (K.take i) else mad16 S (K.take i) ++ [y] := by
  unfold mad16
  rw [List.take_add_one, h]
  simp only [Option.toList_some, List.filter_append, List.filter_cons, List.filter_nil]
  cases spd16 S y <;> simp
end
set_option maxHeartbeats 8000000 in
theorem refMade_16 (L : List ByteArray) (S : List Pq2) (A1 : Option Addr) (n1 c1 : Nat) (A2 : Option Addr) (n2 c2 : Nat) (w : World) (hk : Kx w (.slice A1 n1 c1) L) (hs : Px w (.slice A2 n2 c2) S) (hl1 : n1 ≤ 1000) (hl2 : n2 ≤ 1000) (hzk : ∀ k ∈ L, Szd k) (hzs : ∀ s ∈ S, Szd s.k ∧ Szd s.v) :
    Calls Try.prog 58 #[.slice A1 n1 c1, .slice A2 n2 c2] w fun e w' => ∃ (A : Option Addr) (n c : Nat), e = .returned (.tuple #[.agg #[.slice A n c, .slice A2 n2 c2], .bool (decide (n ≤ 64) && decide (n2 ≤ 64))]) ∧ (mad16 S L).length = n ∧ Kx w' (.slice A n c) (mad16 S L) ∧ Turn (fun _ => False) w w' := by
  have HN1 : Hid (L.length = n1) := Lib.hid (by obtain ⟨_, _, e, _⟩ := id hk; injection e with _ e _; exact e.symm)
  have HK := Lib.hid hk
  have HZK := Lib.hid hzk
  have HSN := Lib.hid (fun y (hy : y ∈ L) W (hW : Turn (fun _ => False) w W) => refSpanned_16 S y A2 n2 c2 W (hs.still hW) (hzk y hy) hzs)
  have HML : Hid (∀ i, (mad16 S (L.take i)).length ≤ n1) := Lib.hid (fun i => by have := mad_len S (L.take i); rw [List.length_take] at this; have := HN1.out; omega)
  clear hk hs hzk hzs
  obtain ⟨W1, hW1⟩ : ∃ W, w.alloc (.cells #[.slice none 0 0, .slice none 0 0] 46) = W := ⟨_, rfl⟩
  obtain ⟨W2, hW2⟩ : ∃ W, W1.alloc (.cells #[.slice none 0 0, .slice none 0 0] 46) = W := ⟨_, rfl⟩
  have hz1 : W1.heap.size = w.heap.size + 1 := by rw [← hW1]; simp
  have M2 : Hid (Md16 w W2 0 (.slice none 0 0) []) := Lib.hid ⟨hW2 ▸ (show Blk W1 w.heap.size 46 [.slice none 0 0, .slice none 0 0] from hW1 ▸ Blk.new _ _ _).alloc _, hz1 ▸ (hW2 ▸ Blk.new _ _ _), ⟨rfl, .inl ⟨rfl, rfl⟩⟩, hW2 ▸ (hW1 ▸ (Turn.refl (fun _ => False) w).alloc _ : Turn (fun _ => False) w W1).alloc _⟩
  go_enter Try.func58, Try.ntmps58
  go_wp2_with fail
  go_loopw [7] (fun v wr => ∃ (i : Nat) (A : Option Addr) (n c : Nat), i ≤ n1 ∧ v = .int .i64 i ∧ Hid ((mad16 S (L.take i)).length = n) ∧ Hid (Md16 w wr 0 (.slice A n c) (mad16 S (L.take i)))) (fun v _ => n1 - (intOf v).toNat)
  case atStart => exact ⟨0, none, 0, 0, Nat.zero_le _, rfl, Lib.hid rfl, M2⟩
  case round =>
    obtain ⟨i, A, n, c, hi, rfl, HNO, MO⟩ := hrel
    obtain ⟨wx, rfl⟩ : ∃ W, W = wr := ⟨_, rfl⟩
    by_cases hlt : i < n1
    · have hi1 : (i : Int) < (n1 : Int) := by omega
      have hi0 : (0 : Int) ≤ (i : Int) := by omega
      have hq := wrap_of ((i : Int) + 1) (by omega) (by omega)
      obtain ⟨y, hy⟩ : ∃ y, L[i]? = some y := ⟨_, List.getElem?_eq_getElem (by rw [HN1.out]; exact hlt)⟩
      have HY := Lib.hid hy
      obtain ⟨b, o, rfl, hcs⟩ := HK.out.cells (by rw [HN1.out]; omega)
      have HCS := Lib.hid hcs
      have c0 := hcs wx MO.out.t i y hy
      have HS2 := Lib.hid (fun W hW => HSN.out y (List.mem_of_getElem? hy) W hW)
      have HNX := Lib.hid (mad_next S hy)
      clear hcs hy
      cases hsp : spd16 S y with
      | true =>
        rw [hsp] at HS2 HNX
        simp only [if_true] at HNX
        clear hsp
        go_wp2_with (go_at_call 69; refine (HS2.out _ MO.out.t).mono ?_; rintro e w5 ⟨rfl, ht⟩; have M5 := Lib.hid (MO.out.still ht); clear ht)
        go_roundw
        case rel => exact ⟨i + 1, A, n, c, by omega, by simp [hq], by rw [HNX.out]; exact HNO, by rw [HNX.out]; exact M5⟩
        case measure => simp [intOf, hq]; omega
      | false =>
        rw [hsp] at HS2 HNX
        simp only [Bool.false_eq_true, if_false] at HNX
        clear hsp
        go_upto_region 6 with (go_at_call 69; refine (HS2.out _ MO.out.t).mono ?_; rintro e w5 ⟨rfl, ht⟩; have M5 := Lib.hid (MO.out.still ht); clear ht)
        have GD := Lib.hid (M5.out.still (Turn.refl _ _).drew)
        have VD : Hid (Turn (fun k => w.heap.size < k) w5 w5.drew) := Lib.hid (Turn.refl _ _).drew
        refine wp_region_noPanic ?_
        refine wp_region_held_drew (S := (fun X => Turn (fun k => w.heap.size < k) w5 X)) (by kernel_rfl) VD.out (fun hHeld => ?_)
        clear hHeld
        refine wpAnyH_take (i := 0) (v := ?_) rfl (by kernel_rfl) (by kernel_rfl) (by kernel_rfl) (fun _ _ _ h => h) (Or.inl ⟨by rfl, ?_⟩) (by assumption) ?_
        rotate_left 1
        · intro w' hSw
          go_simp
          all_goals first | with_reducible rfl | (rw [if_neg (by omega)]; done) | (rw [if_pos (by omega)]; done) | (rw [if_neg (by omega)]; with_reducible rfl) | (rw [if_pos (by omega)]; with_reducible rfl)
        try simp only [List.getElem_toArray, List.getElem_cons_zero, List.getElem_cons_succ, Act.put, List.setIfInBounds_toArray, List.set_cons_zero, List.set_cons_succ]
        refine wpAnyH_take (i := 2) (v := ?_) rfl (by kernel_rfl) (by kernel_rfl) (by kernel_rfl) (fun _ _ _ h => h) (Or.inl ⟨by rfl, ?_⟩) (by assumption) ?_
        rotate_left 1
        · intro w' hSw
          go_simp
          all_goals first | with_reducible rfl | (rw [if_neg (by omega)]; done) | (rw [if_pos (by omega)]; done) | (rw [if_neg (by omega)]; with_reducible rfl) | (rw [if_pos (by omega)]; with_reducible rfl)
        try simp only [List.getElem_toArray, List.getElem_cons_zero, List.getElem_cons_succ, Act.put, List.setIfInBounds_toArray, List.set_cons_zero, List.set_cons_succ]
        refine wpAnyH_take (i := 3) (v := ?_) rfl (by kernel_rfl) (by kernel_rfl) (by kernel_rfl) (fun _ _ _ h => h) (Or.inl ⟨by rfl, ?_⟩) (by assumption) ?_
        rotate_left 1
        · intro w' hSw
          go_simp
          all_goals first | with_reducible rfl | (rw [if_neg (by omega)]; done) | (rw [if_pos (by omega)]; done) | (rw [if_neg (by omega)]; with_reducible rfl) | (rw [if_pos (by omega)]; with_reducible rfl)
        try simp only [List.getElem_toArray, List.getElem_cons_zero, List.getElem_cons_succ, Act.put, List.setIfInBounds_toArray, List.set_cons_zero, List.set_cons_succ]
        refine wpAnyH_take (i := 4) (v := ?_) rfl (by kernel_rfl) (by kernel_rfl) (by kernel_rfl) (fun _ _ _ h => h) (Or.inl ⟨by rfl, ?_⟩) (by assumption) ?_
        rotate_left 1
        · intro w' hSw
          go_simp
          all_goals first | with_reducible rfl | (rw [if_neg (by omega)]; done) | (rw [if_pos (by omega)]; done) | (rw [if_neg (by omega)]; with_reducible rfl) | (rw [if_pos (by omega)]; with_reducible rfl)
        try simp only [List.getElem_toArray, List.getElem_cons_zero, List.getElem_cons_succ, Act.put, List.setIfInBounds_toArray, List.set_cons_zero, List.set_cons_succ]
        refine wpAnyH_take (i := 5) (v := ?_) rfl (by kernel_rfl) (by kernel_rfl) (by kernel_rfl) (fun _ _ _ h => h) (Or.inl ⟨by rfl, ?_⟩) (by assumption) ?_
        rotate_left 1
        · intro w' hSw
          have c1 := HCS.out _ (M5.out.t.trans_new hSw (fun k hk e => by omega)) i _ HY.out
          go_simp
          all_goals first | with_reducible rfl | (rw [if_neg (by omega)]; done) | (rw [if_pos (by omega)]; done) | (rw [if_neg (by omega)]; with_reducible rfl) | (rw [if_pos (by omega)]; with_reducible rfl)
        try simp only [List.getElem_toArray, List.getElem_cons_zero, List.getElem_cons_succ, Act.put, List.setIfInBounds_toArray, List.set_cons_zero, List.set_cons_succ]
        refine wpAnyH_ready (rs := [1, 6]) (by kernel_rfl) (by simp) ?_
        refine AllReadyH.cons rfl (fun K hK => ?_) (AllReadyH.cons rfl (fun K hK => ?_) AllReadyH.nil)
        · obtain ⟨z0, z1⟩ := cells2b16 GD.out.b
          obtain ⟨z2, z3⟩ := cells2b16 M5.out.b
          obtain ⟨z4, z5⟩ := cells2b16 (M5.out.b.alloc (.cells #[.string y] 9))
          go_simp
          refine hK.out _ _ VD.out (fun hHeld => ?_)
          clear hHeld hK K z0 z1 z2 z3 z4 z5
          try simp only [List.getElem_toArray, List.getElem_cons_zero, List.getElem_cons_succ, Act.put, List.setIfInBounds_toArray, List.set_cons_zero, List.set_cons_succ]
          refine wpAnyH_ready (rs := [6]) (by kernel_rfl) (by simp) ?_
          refine AllReadyH.cons rfl (fun K hK => ?_) AllReadyH.nil
          refine step_build1s rfl 43 9 _ rfl y (by rfl) Try.underlying43 info_str16 ?_
          have NB : Hid (Blk (w5.drew.alloc (.cells #[.string y] 9)) w5.drew.heap.size 9 [.string y]) := Lib.hid (Blk.new _ _ _)
          have GB := Lib.hid (GD.out.still ((Turn.refl _ _).alloc (.cells #[.string y] 9)))
          have VB : Hid (Turn (fun k => w.heap.size < k) w5 (w5.drew.alloc (.cells #[.string y] 9))) := Lib.hid ((Turn.refl _ _).drew.alloc _)
          refine hK.out _ _ VB.out (fun hHeld => ?_)
          clear hHeld hK K
          try simp only [List.getElem_toArray, List.getElem_cons_zero, List.getElem_cons_succ, Act.put, List.setIfInBounds_toArray, List.set_cons_zero, List.set_cons_succ]
          refine wpAnyH_ready (rs := [7]) (by kernel_rfl) (by simp) ?_
          refine AllReadyH.cons rfl (fun K hK => ?_) AllReadyH.nil
          refine step_app_rc16 rfl _ _ 43 rfl (w.heap.size + 2) 9 _ 1 16 Try.underlying43 info_str16 rfl (by decide) (.slice A n c) n ((mad16 S (L.take i)).map Value.string) rfl (by have := GB.out.o; rw [HNO.out] at this; exact this) (some ⟨w5.drew.heap.size, 0, none⟩) 1 1 [.string y] rfl rfl NB.out.rc (fun u hu => by simp at hu; subst hu; rfl) (by have := HML.out i; have := HNO.out; unfold maxLen; omega) (by have := HML.out i; have := HNO.out; omega) (Nat.succ_le_of_lt GB.out.b.lt) ?_
          intro A7 c7 w7 ho7 ht7
          have hge : ∀ k, (Value.slice A n c).ownBlock = some k → w.heap.size + 2 ≤ k := fun k e => (GB.out.ow k e).1
          have O7 := Lib.hid ho7
          have VC : Hid (Turn (fun k => w.heap.size < k) w5 w7) := Lib.hid (VB.out.trans (ht7.mono (fun k _ e => by have := hge _ e; omega)))
          have D7 : Hid (Turn (fun _ => False) w w7) := Lib.hid (M5.out.t.trans_new VC.out (fun k hk e => by omega))
          have G7 : Hid (Blk w7 w.heap.size 46 [.slice none 0 0, .slice none 0 0]) := Lib.hid (GB.out.g.turn ht7 (fun e => by have := hge _ e; omega))
          have B7 : Hid (Blk w7 (w.heap.size + 1) 46 [.slice A n c, .slice none 0 0]) := Lib.hid (GB.out.b.turn ht7 (fun e => by have := hge _ e; omega))
          clear ho7 ht7 hge
          refine hK.out _ _ VC.out (fun hHeld => ?_)
          clear hHeld hK K
          try simp only [List.getElem_toArray, List.getElem_cons_zero, List.getElem_cons_succ, Act.put, List.setIfInBounds_toArray, List.set_cons_zero, List.set_cons_succ]
          refine wpAnyH_take (i := 8) (v := ?_) rfl (by kernel_rfl) (by kernel_rfl) (by kernel_rfl) (fun _ _ _ h => h) (Or.inl ⟨by rfl, ?_⟩) (by assumption) ?_
          rotate_left 1
          · intro w' hSw
            go_simp
            all_goals first | with_reducible rfl | (rw [if_neg (by omega)]; done) | (rw [if_pos (by omega)]; done) | (rw [if_neg (by omega)]; with_reducible rfl) | (rw [if_pos (by omega)]; with_reducible rfl)
          try simp only [List.getElem_toArray, List.getElem_cons_zero, List.getElem_cons_succ, Act.put, List.setIfInBounds_toArray, List.set_cons_zero, List.set_cons_succ]
          refine wpAnyH_ready (rs := [9]) (by kernel_rfl) (by simp) ?_
          refine AllReadyH.cons rfl (fun K hK => ?_) AllReadyH.nil
          obtain ⟨z0, z1⟩ := cells2b16 B7.out
          have z2 := B7.out.free 0
          go_simp
          have Q8 := Lib.hid (B7.out.put 0 (.slice A7 (n + 1) c7))
          have V8 := Lib.hid (Turn.setCell (Turn.refl (fun k => k = w.heap.size + 1) w7) (p := ⟨w.heap.size + 1, 0, none⟩) (.inl rfl) (.slice A7 (n + 1) c7))
          have VE := Lib.hid (VC.out.trans (V8.out.mono (fun k _ e => by omega)))
          have G8 := Lib.hid (G7.out.turn V8.out (fun e => by omega))
          have O8 := Lib.hid (own_tn16 O7.out V8.out (fun k hk e => by have := (own_ge9 O7.out k hk).1; omega))
          have D8 := Lib.hid (D7.out.trans_new V8.out (fun k hk e => by omega))
          refine hK.out _ _ VE.out (fun hHeld => ?_)
          clear hHeld hK K
          try simp only [List.getElem_toArray, List.getElem_cons_zero, List.getElem_cons_succ, Act.put, List.setIfInBounds_toArray, List.set_cons_zero, List.set_cons_succ]
          refine wpAnyH_done (by kernel_rfl) ?_ _
          refine NoPanic.normal ?_
          go_wp2_with fail
          go_roundw
          case rel => exact ⟨i + 1, A7, n + 1, c7, by omega, by simp [hq], by rw [HNX.out]; exact Lib.hid (by rw [List.length_append, HNO.out]; rfl), by rw [HNX.out]; exact Lib.hid ⟨G8.out, Q8.out, by rw [List.length_append, HNO.out, List.map_append]; exact O8.out, D8.out⟩⟩
          case measure => simp [intOf, hq]; omega
        · refine step_build1s rfl 43 9 _ rfl y (by rfl) Try.underlying43 info_str16 ?_
          have NB : Hid (Blk (w5.drew.alloc (.cells #[.string y] 9)) w5.drew.heap.size 9 [.string y]) := Lib.hid (Blk.new _ _ _)
          have GB := Lib.hid (GD.out.still ((Turn.refl _ _).alloc (.cells #[.string y] 9)))
          have VB : Hid (Turn (fun k => w.heap.size < k) w5 (w5.drew.alloc (.cells #[.string y] 9))) := Lib.hid ((Turn.refl _ _).drew.alloc _)
          refine hK.out _ _ VB.out (fun hHeld => ?_)
          clear hHeld hK K
          try simp only [List.getElem_toArray, List.getElem_cons_zero, List.getElem_cons_succ, Act.put, List.setIfInBounds_toArray, List.set_cons_zero, List.set_cons_succ]
          refine wpAnyH_ready (rs := [1]) (by kernel_rfl) (by simp) ?_
          refine AllReadyH.cons rfl (fun K hK => ?_) AllReadyH.nil
          obtain ⟨z0, z1⟩ := cells2b16 GB.out.b
          obtain ⟨z2, z3⟩ := cells2b16 M5.out.b
          obtain ⟨z4, z5⟩ := cells2b16 (M5.out.b.alloc (.cells #[.string y] 9))
          go_simp
          refine hK.out _ _ VB.out (fun hHeld => ?_)
          clear hHeld hK K z0 z1 z2 z3 z4 z5
          try simp only [List.getElem_toArray, List.getElem_cons_zero, List.getElem_cons_succ, Act.put, List.setIfInBounds_toArray, List.set_cons_zero, List.set_cons_succ]
          refine wpAnyH_ready (rs := [7]) (by kernel_rfl) (by simp) ?_
          refine AllReadyH.cons rfl (fun K hK => ?_) AllReadyH.nil
          refine step_app_rc16 rfl _ _ 43 rfl (w.heap.size + 2) 9 _ 1 16 Try.underlying43 info_str16 rfl (by decide) (.slice A n c) n ((mad16 S (L.take i)).map Value.string) rfl (by have := GB.out.o; rw [HNO.out] at this; exact this) (some ⟨w5.drew.heap.size, 0, none⟩) 1 1 [.string y] rfl rfl NB.out.rc (fun u hu => by simp at hu; subst hu; rfl) (by have := HML.out i; have := HNO.out; unfold maxLen; omega) (by have := HML.out i; have := HNO.out; omega) (Nat.succ_le_of_lt GB.out.b.lt) ?_
          intro A7 c7 w7 ho7 ht7
          have hge : ∀ k, (Value.slice A n c).ownBlock = some k → w.heap.size + 2 ≤ k := fun k e => (GB.out.ow k e).1
          have O7 := Lib.hid ho7
          have VC : Hid (Turn (fun k => w.heap.size < k) w5 w7) := Lib.hid (VB.out.trans (ht7.mono (fun k _ e => by have := hge _ e; omega)))
          have D7 : Hid (Turn (fun _ => False) w w7) := Lib.hid (M5.out.t.trans_new VC.out (fun k hk e => by omega))
          have G7 : Hid (Blk w7 w.heap.size 46 [.slice none 0 0, .slice none 0 0]) := Lib.hid (GB.out.g.turn ht7 (fun e => by have := hge _ e; omega))
          have B7 : Hid (Blk w7 (w.heap.size + 1) 46 [.slice A n c, .slice none 0 0]) := Lib.hid (GB.out.b.turn ht7 (fun e => by have := hge _ e; omega))
          clear ho7 ht7 hge
          refine hK.out _ _ VC.out (fun hHeld => ?_)
          clear hHeld hK K
          try simp only [List.getElem_toArray, List.getElem_cons_zero, List.getElem_cons_succ, Act.put, List.setIfInBounds_toArray, List.set_cons_zero, List.set_cons_succ]
          refine wpAnyH_take (i := 8) (v := ?_) rfl (by kernel_rfl) (by kernel_rfl) (by kernel_rfl) (fun _ _ _ h => h) (Or.inl ⟨by rfl, ?_⟩) (by assumption) ?_
          rotate_left 1
          · intro w' hSw
            go_simp
            all_goals first | with_reducible rfl | (rw [if_neg (by omega)]; done) | (rw [if_pos (by omega)]; done) | (rw [if_neg (by omega)]; with_reducible rfl) | (rw [if_pos (by omega)]; with_reducible rfl)
          try simp only [List.getElem_toArray, List.getElem_cons_zero, List.getElem_cons_succ, Act.put, List.setIfInBounds_toArray, List.set_cons_zero, List.set_cons_succ]
          refine wpAnyH_ready (rs := [9]) (by kernel_rfl) (by simp) ?_
          refine AllReadyH.cons rfl (fun K hK => ?_) AllReadyH.nil
          obtain ⟨z0, z1⟩ := cells2b16 B7.out
          have z2 := B7.out.free 0
          go_simp
          have Q8 := Lib.hid (B7.out.put 0 (.slice A7 (n + 1) c7))
          have V8 := Lib.hid (Turn.setCell (Turn.refl (fun k => k = w.heap.size + 1) w7) (p := ⟨w.heap.size + 1, 0, none⟩) (.inl rfl) (.slice A7 (n + 1) c7))
          have VE := Lib.hid (VC.out.trans (V8.out.mono (fun k _ e => by omega)))
          have G8 := Lib.hid (G7.out.turn V8.out (fun e => by omega))
          have O8 := Lib.hid (own_tn16 O7.out V8.out (fun k hk e => by have := (own_ge9 O7.out k hk).1; omega))
          have D8 := Lib.hid (D7.out.trans_new V8.out (fun k hk e => by omega))
          refine hK.out _ _ VE.out (fun hHeld => ?_)
          clear hHeld hK K
          try simp only [List.getElem_toArray, List.getElem_cons_zero, List.getElem_cons_succ, Act.put, List.setIfInBounds_toArray, List.set_cons_zero, List.set_cons_succ]
          refine wpAnyH_done (by kernel_rfl) ?_ _
          refine NoPanic.normal ?_
          go_wp2_with fail
          go_roundw
          case rel => exact ⟨i + 1, A7, n + 1, c7, by omega, by simp [hq], by rw [HNX.out]; exact Lib.hid (by rw [List.length_append, HNO.out]; rfl), by rw [HNX.out]; exact Lib.hid ⟨G8.out, Q8.out, by rw [List.length_append, HNO.out, List.map_append]; exact O8.out, D8.out⟩⟩
          case measure => simp [intOf, hq]; omega
    · obtain rfl : n1 = i := by omega
      have hnl : ¬ (n1 : Int) < (n1 : Int) := by omega
      have htk : L.take n1 = L := by rw [← HN1.out]; exact List.take_length
      rw [htk] at HNO MO
      clear htk
      obtain ⟨z0, z1⟩ := cells2b16 MO.out.b
      obtain ⟨f0, f1⟩ := free2_16 MO.out.b
      obtain ⟨w8, hw8⟩ : ∃ W, wx.setCell ⟨w.heap.size + 1, 1, none⟩ (.slice A2 n2 c2) = W := ⟨_, rfl⟩
      have V8 : Hid (Turn (fun k => k = w.heap.size + 1) wx w8) := Lib.hid (hw8 ▸ Turn.setCell (Turn.refl (fun k => k = w.heap.size + 1) wx) (p := ⟨w.heap.size + 1, 1, none⟩) (.inl rfl) (.slice A2 n2 c2))
      have Q8 : Hid (Blk w8 (w.heap.size + 1) 46 [.slice A n c, .slice A2 n2 c2]) := Lib.hid (hw8 ▸ MO.out.b.put 1 (.slice A2 n2 c2))
      have G8 := Lib.hid (MO.out.g.turn V8.out (fun e => by omega))
      have O8 := Lib.hid (own_tn16 MO.out.o V8.out (fun k hk e => by have := (MO.out.ow k hk).1; omega))
      have D8 := Lib.hid (MO.out.t.trans_new V8.out (fun k hk e => by omega))
      have VD : Hid (Turn (fun k => k = w.heap.size) w8 w8.drew) := Lib.hid (Turn.refl _ _).drew
      have HML2 : Hid ((mad16 S L).length ≤ n1) := Lib.hid (by have := mad_len S L; have := HN1.out; omega)
      clear MO
      go_upto_region 8 with fail
      by_cases hg : n ≤ 64
      · have HG : Hid (decide (n ≤ 64) = true) := Lib.hid (by simpa using hg)
        refine wp_region_noPanic ?_
        refine wp_region_held_drew (S := (fun X => Turn (fun k => k = w.heap.size) w8 X)) (by kernel_rfl) VD.out (fun hHeld => ?_)
        clear hHeld
        refine wpAnyH_take (i := 0) (v := ?_) rfl (by kernel_rfl) (by kernel_rfl) (by kernel_rfl) (fun _ _ _ h => h) (Or.inl ⟨by rfl, ?_⟩) (by assumption) ?_
        rotate_left 1
        · intro w' hSw
          obtain ⟨z0, z1⟩ := cells2b16 (Q8.out.turn hSw (fun e => by omega))
          go_simp
          all_goals first | with_reducible rfl | (rw [if_neg (by omega)]; done) | (rw [if_pos (by omega)]; done) | (rw [if_neg (by omega)]; with_reducible rfl) | (rw [if_pos (by omega)]; with_reducible rfl)
        try simp only [List.getElem_toArray, List.getElem_cons_zero, List.getElem_cons_succ, Act.put, List.setIfInBounds_toArray, List.set_cons_zero, List.set_cons_succ]
        refine wpAnyH_take (i := 1) (v := ?_) rfl (by kernel_rfl) (by kernel_rfl) (by kernel_rfl) (fun _ _ _ h => h) (Or.inl ⟨by rfl, ?_⟩) (by assumption) ?_
        rotate_left 1
        · intro w' hSw
          go_simp
          all_goals first | with_reducible rfl | (rw [if_neg (by omega)]; done) | (rw [if_pos (by omega)]; done) | (rw [if_neg (by omega)]; with_reducible rfl) | (rw [if_pos (by omega)]; with_reducible rfl)
        try simp only [List.getElem_toArray, List.getElem_cons_zero, List.getElem_cons_succ, Act.put, List.setIfInBounds_toArray, List.set_cons_zero, List.set_cons_succ]
        refine wpAnyH_take (i := 2) (v := ?_) rfl (by kernel_rfl) (by kernel_rfl) (by kernel_rfl) (fun _ _ _ h => h) (Or.inl ⟨by rfl, ?_⟩) (by assumption) ?_
        rotate_left 1
        · intro w' hSw
          obtain ⟨z0, z1⟩ := cells2b16 (Q8.out.turn hSw (fun e => by omega))
          go_simp
          all_goals first | with_reducible rfl | (rw [if_neg (by omega)]; done) | (rw [if_pos (by omega)]; done) | (rw [if_neg (by omega)]; with_reducible rfl) | (rw [if_pos (by omega)]; with_reducible rfl)
        try simp only [List.getElem_toArray, List.getElem_cons_zero, List.getElem_cons_succ, Act.put, List.setIfInBounds_toArray, List.set_cons_zero, List.set_cons_succ]
        refine wpAnyH_take (i := 3) (v := ?_) rfl (by kernel_rfl) (by kernel_rfl) (by kernel_rfl) (fun _ _ _ h => h) (Or.inl ⟨by rfl, ?_⟩) (by assumption) ?_
        rotate_left 1
        · intro w' hSw
          go_simp
          all_goals first | with_reducible rfl | (rw [if_neg (by omega)]; done) | (rw [if_pos (by omega)]; done) | (rw [if_neg (by omega)]; with_reducible rfl) | (rw [if_pos (by omega)]; with_reducible rfl)
        try simp only [List.getElem_toArray, List.getElem_cons_zero, List.getElem_cons_succ, Act.put, List.setIfInBounds_toArray, List.set_cons_zero, List.set_cons_succ]
        refine wpAnyH_take (i := 4) (v := .bool true) rfl (by kernel_rfl) (by kernel_rfl) (by kernel_rfl) (fun _ _ _ h => h) (Or.inl ⟨by rfl, ?_⟩) (by assumption) ?_
        · intro w' hSw
          go_simp
          all_goals first | (omega) | (simp; omega) | with_reducible rfl | (rw [if_neg (by omega)]; done) | (rw [if_pos (by omega)]; done) | (rw [if_neg (by omega)]; with_reducible rfl) | (rw [if_pos (by omega)]; with_reducible rfl)
        try simp only [List.getElem_toArray, List.getElem_cons_zero, List.getElem_cons_succ, Act.put, List.setIfInBounds_toArray, List.set_cons_zero, List.set_cons_succ]
        refine wpAnyH_take (i := 5) (v := ?_) rfl (by kernel_rfl) (by kernel_rfl) (by kernel_rfl) (fun _ _ _ h => h) (Or.inl ⟨by rfl, ?_⟩) (by assumption) ?_
        rotate_left 1
        · intro w' hSw
          go_simp
          all_goals first | with_reducible rfl | (rw [if_neg (by omega)]; done) | (rw [if_pos (by omega)]; done) | (rw [if_neg (by omega)]; with_reducible rfl) | (rw [if_pos (by omega)]; with_reducible rfl)
        try simp only [List.getElem_toArray, List.getElem_cons_zero, List.getElem_cons_succ, Act.put, List.setIfInBounds_toArray, List.set_cons_zero, List.set_cons_succ]
        refine wpAnyH_take (i := 6) (v := ?_) rfl (by kernel_rfl) (by kernel_rfl) (by kernel_rfl) (fun _ _ _ h => h) (Or.inl ⟨by rfl, ?_⟩) (by assumption) ?_
        rotate_left 1
        · intro w' hSw
          go_simp
          all_goals first | with_reducible rfl | (rw [if_neg (by omega)]; done) | (rw [if_pos (by omega)]; done) | (rw [if_neg (by omega)]; with_reducible rfl) | (rw [if_pos (by omega)]; with_reducible rfl)
        try simp only [List.getElem_toArray, List.getElem_cons_zero, List.getElem_cons_succ, Act.put, List.setIfInBounds_toArray, List.set_cons_zero, List.set_cons_succ]
        refine wpAnyH_take (i := 7) (v := ?_) rfl (by kernel_rfl) (by kernel_rfl) (by kernel_rfl) (fun _ _ _ h => h) (Or.inl ⟨by rfl, ?_⟩) (by assumption) ?_
        rotate_left 1
        · intro w' hSw
          obtain ⟨z0, z1⟩ := cells2b16 (Q8.out.turn hSw (fun e => by omega))
          go_simp
          all_goals first | with_reducible rfl | (rw [if_neg (by omega)]; done) | (rw [if_pos (by omega)]; done) | (rw [if_neg (by omega)]; with_reducible rfl) | (rw [if_pos (by omega)]; with_reducible rfl)
        try simp only [List.getElem_toArray, List.getElem_cons_zero, List.getElem_cons_succ, Act.put, List.setIfInBounds_toArray, List.set_cons_zero, List.set_cons_succ]
        refine wpAnyH_take (i := 8) (v := ?_) rfl (by kernel_rfl) (by kernel_rfl) (by kernel_rfl) (fun _ _ _ h => h) (Or.inl ⟨by rfl, ?_⟩) (by assumption) ?_
        rotate_left 1
        · intro w' hSw
          go_simp
          all_goals first | with_reducible rfl | (rw [if_neg (by omega)]; done) | (rw [if_pos (by omega)]; done) | (rw [if_neg (by omega)]; with_reducible rfl) | (rw [if_pos (by omega)]; with_reducible rfl)
        try simp only [List.getElem_toArray, List.getElem_cons_zero, List.getElem_cons_succ, Act.put, List.setIfInBounds_toArray, List.set_cons_zero, List.set_cons_succ]
        refine wpAnyH_take (i := 9) (v := .bool (decide (n2 ≤ 64))) rfl (by kernel_rfl) (by kernel_rfl) (by kernel_rfl) (fun _ _ _ h => h) (Or.inl ⟨by rfl, ?_⟩) (by assumption) ?_
        · intro w' hSw
          go_simp
          all_goals first | (omega) | (simp; omega) | (simp; done) | with_reducible rfl | (rw [if_neg (by omega)]; done) | (rw [if_pos (by omega)]; done) | (rw [if_neg (by omega)]; with_reducible rfl) | (rw [if_pos (by omega)]; with_reducible rfl)
        try simp only [List.getElem_toArray, List.getElem_cons_zero, List.getElem_cons_succ, Act.put, List.setIfInBounds_toArray, List.set_cons_zero, List.set_cons_succ]
        refine wpAnyH_take (i := 10) (v := ?_) rfl (by kernel_rfl) (by kernel_rfl) (by kernel_rfl) (fun _ _ _ h => h) (Or.inl ⟨by rfl, ?_⟩) (by assumption) ?_
        rotate_left 1
        · intro w' hSw
          go_simp
          all_goals first | with_reducible rfl | (rw [if_neg (by omega)]; done) | (rw [if_pos (by omega)]; done) | (rw [if_neg (by omega)]; with_reducible rfl) | (rw [if_pos (by omega)]; with_reducible rfl)
        try simp only [List.getElem_toArray, List.getElem_cons_zero, List.getElem_cons_succ, Act.put, List.setIfInBounds_toArray, List.set_cons_zero, List.set_cons_succ]
        refine wpAnyH_ready (rs := [11]) (by kernel_rfl) (by simp) ?_
        refine AllReadyH.cons rfl (fun K hK => ?_) AllReadyH.nil
        obtain ⟨z0, z1⟩ := cells2b16 G8.out
        obtain ⟨f0, f1⟩ := free2_16 G8.out
        go_simp
        have P9 := Lib.hid (put2_16 (G8.out.turn (Turn.refl (fun _ => False) w8).drew (fun e => e)) (.slice A n c) (.slice A2 n2 c2))
        have VE := Lib.hid (VD.out.trans P9.out.2)
        refine hK.out _ _ VE.out (fun hHeld => ?_)
        clear hHeld hK K
        try simp only [List.getElem_toArray, List.getElem_cons_zero, List.getElem_cons_succ, Act.put, List.setIfInBounds_toArray, List.set_cons_zero, List.set_cons_succ]
        refine wpAnyH_take (i := 12) (v := ?_) rfl (by kernel_rfl) (by kernel_rfl) (by kernel_rfl) (fun _ _ _ h => h) (Or.inl ⟨by rfl, ?_⟩) (by assumption) ?_
        rotate_left 1
        · intro w' hSw
          go_simp
          all_goals first | with_reducible rfl | (rw [if_neg (by omega)]; done) | (rw [if_pos (by omega)]; done) | (rw [if_neg (by omega)]; with_reducible rfl) | (rw [if_pos (by omega)]; with_reducible rfl)
        try simp only [List.getElem_toArray, List.getElem_cons_zero, List.getElem_cons_succ, Act.put, List.setIfInBounds_toArray, List.set_cons_zero, List.set_cons_succ]
        refine wpAnyH_done (by kernel_rfl) ?_ _
        refine NoPanic.normal ?_
        obtain ⟨e0, e1⟩ := cells2b16 (put2_16 G8.out (.slice A n c) (.slice A2 n2 c2)).1
        obtain ⟨e2, e3⟩ := cells2b16 (G8.out.put 0 (.slice A n c))
        go_wp2_with fail
        refine bodyPost_ret (v := .tuple #[.agg #[.slice A n c, .slice A2 n2 c2], .bool (decide (n2 ≤ 64))]) (by simp [results, Try.results58, go_sem, e0, e1, e2, e3]) rfl ⟨A, n, c, by first | (rw [HG.out]; simp; done) | (rw [HG.out]; rfl), HNO.out, ?_, ?_⟩
        · refine ⟨A, c, by rw [HNO.out], by have := HML2.out; omega, rc_own (t := 9) (by have h := own_tn16 O8.out VE.out (fun k hk e => by have := (own_ge9 O8.out k hk).1; omega); rw [HNO.out] at h; exact h)⟩
        · exact D8.out.trans_new VE.out (fun k hk e => by omega)
      · have HG : Hid (decide (n ≤ 64) = false) := Lib.hid (by simpa using hg)
        refine wp_region_noPanic ?_
        refine wp_region_held_drew (S := (fun X => Turn (fun k => k = w.heap.size) w8 X)) (by kernel_rfl) VD.out (fun hHeld => ?_)
        clear hHeld
        refine wpAnyH_take (i := 0) (v := ?_) rfl (by kernel_rfl) (by kernel_rfl) (by kernel_rfl) (fun _ _ _ h => h) (Or.inl ⟨by rfl, ?_⟩) (by assumption) ?_
        rotate_left 1
        · intro w' hSw
          obtain ⟨z0, z1⟩ := cells2b16 (Q8.out.turn hSw (fun e => by omega))
          go_simp
          all_goals first | with_reducible rfl | (rw [if_neg (by omega)]; done) | (rw [if_pos (by omega)]; done) | (rw [if_neg (by omega)]; with_reducible rfl) | (rw [if_pos (by omega)]; with_reducible rfl)
        try simp only [List.getElem_toArray, List.getElem_cons_zero, List.getElem_cons_succ, Act.put, List.setIfInBounds_toArray, List.set_cons_zero, List.set_cons_succ]
        refine wpAnyH_take (i := 1) (v := ?_) rfl (by kernel_rfl) (by kernel_rfl) (by kernel_rfl) (fun _ _ _ h => h) (Or.inl ⟨by rfl, ?_⟩) (by assumption) ?_
        rotate_left 1
        · intro w' hSw
          go_simp
          all_goals first | with_reducible rfl | (rw [if_neg (by omega)]; done) | (rw [if_pos (by omega)]; done) | (rw [if_neg (by omega)]; with_reducible rfl) | (rw [if_pos (by omega)]; with_reducible rfl)
        try simp only [List.getElem_toArray, List.getElem_cons_zero, List.getElem_cons_succ, Act.put, List.setIfInBounds_toArray, List.set_cons_zero, List.set_cons_succ]
        refine wpAnyH_take (i := 2) (v := ?_) rfl (by kernel_rfl) (by kernel_rfl) (by kernel_rfl) (fun _ _ _ h => h) (Or.inl ⟨by rfl, ?_⟩) (by assumption) ?_
        rotate_left 1
        · intro w' hSw
          obtain ⟨z0, z1⟩ := cells2b16 (Q8.out.turn hSw (fun e => by omega))
          go_simp
          all_goals first | with_reducible rfl | (rw [if_neg (by omega)]; done) | (rw [if_pos (by omega)]; done) | (rw [if_neg (by omega)]; with_reducible rfl) | (rw [if_pos (by omega)]; with_reducible rfl)
        try simp only [List.getElem_toArray, List.getElem_cons_zero, List.getElem_cons_succ, Act.put, List.setIfInBounds_toArray, List.set_cons_zero, List.set_cons_succ]
        refine wpAnyH_take (i := 3) (v := ?_) rfl (by kernel_rfl) (by kernel_rfl) (by kernel_rfl) (fun _ _ _ h => h) (Or.inl ⟨by rfl, ?_⟩) (by assumption) ?_
        rotate_left 1
        · intro w' hSw
          go_simp
          all_goals first | with_reducible rfl | (rw [if_neg (by omega)]; done) | (rw [if_pos (by omega)]; done) | (rw [if_neg (by omega)]; with_reducible rfl) | (rw [if_pos (by omega)]; with_reducible rfl)
        try simp only [List.getElem_toArray, List.getElem_cons_zero, List.getElem_cons_succ, Act.put, List.setIfInBounds_toArray, List.set_cons_zero, List.set_cons_succ]
        refine wpAnyH_take (i := 4) (v := .bool false) rfl (by kernel_rfl) (by kernel_rfl) (by kernel_rfl) (fun _ _ _ h => h) (Or.inl ⟨by rfl, ?_⟩) (by assumption) ?_
        · intro w' hSw
          go_simp
          all_goals first | (omega) | (simp; omega) | with_reducible rfl | (rw [if_neg (by omega)]; done) | (rw [if_pos (by omega)]; done) | (rw [if_neg (by omega)]; with_reducible rfl) | (rw [if_pos (by omega)]; with_reducible rfl)
        try simp only [List.getElem_toArray, List.getElem_cons_zero, List.getElem_cons_succ, Act.put, List.setIfInBounds_toArray, List.set_cons_zero, List.set_cons_succ]
        refine wpAnyH_take (i := 5) (v := ?_) rfl (by kernel_rfl) (by kernel_rfl) (by kernel_rfl) (fun _ _ _ h => h) (Or.inl ⟨by rfl, ?_⟩) (by assumption) ?_
        rotate_left 1
        · intro w' hSw
          go_simp
          all_goals first | with_reducible rfl | (rw [if_neg (by omega)]; done) | (rw [if_pos (by omega)]; done) | (rw [if_neg (by omega)]; with_reducible rfl) | (rw [if_pos (by omega)]; with_reducible rfl)
        try simp only [List.getElem_toArray, List.getElem_cons_zero, List.getElem_cons_succ, Act.put, List.setIfInBounds_toArray, List.set_cons_zero, List.set_cons_succ]
        refine wpAnyH_take (i := 6) (v := undef) rfl (by kernel_rfl) (by kernel_rfl) (by kernel_rfl) (fun _ _ _ h => h) (Or.inr ⟨by rfl, rfl⟩) (by assumption) ?_
        try simp only [List.getElem_toArray, List.getElem_cons_zero, List.getElem_cons_succ, Act.put, List.setIfInBounds_toArray, List.set_cons_zero, List.set_cons_succ]
        refine wpAnyH_take (i := 7) (v := undef) rfl (by kernel_rfl) (by kernel_rfl) (by kernel_rfl) (fun _ _ _ h => h) (Or.inr ⟨by rfl, rfl⟩) (by assumption) ?_
        try simp only [List.getElem_toArray, List.getElem_cons_zero, List.getElem_cons_succ, Act.put, List.setIfInBounds_toArray, List.set_cons_zero, List.set_cons_succ]
        refine wpAnyH_take (i := 8) (v := undef) rfl (by kernel_rfl) (by kernel_rfl) (by kernel_rfl) (fun _ _ _ h => h) (Or.inr ⟨by rfl, rfl⟩) (by assumption) ?_
        try simp only [List.getElem_toArray, List.getElem_cons_zero, List.getElem_cons_succ, Act.put, List.setIfInBounds_toArray, List.set_cons_zero, List.set_cons_succ]
        refine wpAnyH_take (i := 9) (v := undef) rfl (by kernel_rfl) (by kernel_rfl) (by kernel_rfl) (fun _ _ _ h => h) (Or.inr ⟨by rfl, rfl⟩) (by assumption) ?_
        try simp only [List.getElem_toArray, List.getElem_cons_zero, List.getElem_cons_succ, Act.put, List.setIfInBounds_toArray, List.set_cons_zero, List.set_cons_succ]
        refine wpAnyH_take (i := 10) (v := ?_) rfl (by kernel_rfl) (by kernel_rfl) (by kernel_rfl) (fun _ _ _ h => h) (Or.inl ⟨by rfl, ?_⟩) (by assumption) ?_
        rotate_left 1
        · intro w' hSw
          go_simp
          all_goals first | with_reducible rfl | (rw [if_neg (by omega)]; done) | (rw [if_pos (by omega)]; done) | (rw [if_neg (by omega)]; with_reducible rfl) | (rw [if_pos (by omega)]; with_reducible rfl)
        try simp only [List.getElem_toArray, List.getElem_cons_zero, List.getElem_cons_succ, Act.put, List.setIfInBounds_toArray, List.set_cons_zero, List.set_cons_succ]
        refine wpAnyH_ready (rs := [11]) (by kernel_rfl) (by simp) ?_
        refine AllReadyH.cons rfl (fun K hK => ?_) AllReadyH.nil
        obtain ⟨z0, z1⟩ := cells2b16 G8.out
        obtain ⟨f0, f1⟩ := free2_16 G8.out
        go_simp
        have P9 := Lib.hid (put2_16 (G8.out.turn (Turn.refl (fun _ => False) w8).drew (fun e => e)) (.slice A n c) (.slice A2 n2 c2))
        have VE := Lib.hid (VD.out.trans P9.out.2)
        refine hK.out _ _ VE.out (fun hHeld => ?_)
        clear hHeld hK K
        try simp only [List.getElem_toArray, List.getElem_cons_zero, List.getElem_cons_succ, Act.put, List.setIfInBounds_toArray, List.set_cons_zero, List.set_cons_succ]
        refine wpAnyH_take (i := 12) (v := ?_) rfl (by kernel_rfl) (by kernel_rfl) (by kernel_rfl) (fun _ _ _ h => h) (Or.inl ⟨by rfl, ?_⟩) (by assumption) ?_
        rotate_left 1
        · intro w' hSw
          go_simp
          all_goals first | with_reducible rfl | (rw [if_neg (by omega)]; done) | (rw [if_pos (by omega)]; done) | (rw [if_neg (by omega)]; with_reducible rfl) | (rw [if_pos (by omega)]; with_reducible rfl)
        try simp only [List.getElem_toArray, List.getElem_cons_zero, List.getElem_cons_succ, Act.put, List.setIfInBounds_toArray, List.set_cons_zero, List.set_cons_succ]
        refine wpAnyH_done (by kernel_rfl) ?_ _
        refine NoPanic.normal ?_
        obtain ⟨e0, e1⟩ := cells2b16 (put2_16 G8.out (.slice A n c) (.slice A2 n2 c2)).1
        obtain ⟨e2, e3⟩ := cells2b16 (G8.out.put 0 (.slice A n c))
        go_wp2_with fail
        refine bodyPost_ret (v := .tuple #[.agg #[.slice A n c, .slice A2 n2 c2], .bool false]) (by simp [results, Try.results58, go_sem, e0, e1, e2, e3]) rfl ⟨A, n, c, by first | (rw [HG.out]; simp; done) | (rw [HG.out]; rfl), HNO.out, ?_, ?_⟩
        · refine ⟨A, c, by rw [HNO.out], by have := HML2.out; omega, rc_own (t := 9) (by have h := own_tn16 O8.out VE.out (fun k hk e => by have := (own_ge9 O8.out k hk).1; omega); rw [HNO.out] at h; exact h)⟩
        · exact D8.out.trans_new VE.out (fun k hk e => by omega)
end Go.Proofs.Ytjkfgbmlhglnfaa
