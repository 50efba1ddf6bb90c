/- Layer 14: slices.Clone of versions; the program's space: what it holds; small calls. -/
import Derived.Test.YtobddfpdijmgiaaSpL
import Derived.Test.YtobddfpdijmgiaaVcK
import Derived.Test.YtobddfpdijmgiaaSpJ
import Derived.Deep.CutRange
import Derived.Deep.DeepCutAuto
import Derived.WalkSpells
namespace Go.Proofs.Ytobddfpdijmgiaa
open Go.RowKit
set_option linter.unusedVariables false
set_option linter.unusedSimpArgs false
set_option maxRecDepth 100000

theorem wpList_app_bare {P : Program} {w : World} {ops : Array Oper} {rest : List Oper} {o : Oper} {a : Act} {Q : Exit → Act → World → Prop} (hgd : o.guard = none) (x y : Operand) (t : TypeId)
    (ho : o.op = .call { callee := .builtin .append, args := #[x, y], argTypes := #[t, t] })
    (e : TypeId) (z : Value) (size bytes : Nat) (ht : P.underlying t = some (.slice e)) (hi : (P.info? e).map (fun i => (i.zero, i.size, i.bytes)) = some (some z, size, bytes)) (hzs : z.cells.size = size) (hsz : 0 < size)
    (AO : Option Addr) (hx : a.eval x = .slice AO 0 0)
    (A : Option Addr) (m c : Nat) (news : List Value) (hy : a.eval y = .slice A m c) (hl : news.length = m * size) (hr : Rc w A news) (h1 : ∀ u ∈ news, u.oneCell' = true)
    (h63 : m ≤ maxLen) (hbytes : m * bytes ≤ 140737488355328)
    (h : ∀ A' c' w', Rc w' A' news → (m ≤ c' ∧ (0 < m → ∀ a, A' = some a → w.heap.size ≤ a.block)) → Turn (fun _ => False) w w' → wpList P ops Q rest (a.put o.dst (.slice A' m c')) w') : wpList P ops Q (o :: rest) a w := by
  refine wpList_plain hgd fun K' hK' => ?_
  cases hi' : P.info? e with
  | none => rw [hi'] at hi; cases hi
  | some i =>
    rw [hi'] at hi
    simp at hi
    obtain ⟨hz, hs, hb⟩ := hi
    obtain ⟨A', c', w', hrun, h2, hmc, h3⟩ := run_app_bare (P := P) w t o.type e i z size bytes ht hi' hz hs hb hzs hsz AO A m c news hl hr h1 h63 hbytes
    unfold Oper.wp execOp
    simp only [ho, resolve, invoke, builtin, Sem.run_bind, Sem.run_pure, Result.andThen_ok, List.map_toArray, List.map_cons, List.map_nil, hx, hy, hrun]
    exact hK' _ _ (h A' c' w' h2 hmc h3)
theorem clone14 (L : List Vn) (v : Value) (w : World) (h : Vr w v L) (hcv : Cv v) (hb : L.length ≤ 1000000000) :
    Calls Try.prog 71 #[v] w fun e w' => ∃ v', e = .returned v' ∧ Vr w' v' L ∧ Cw w.heap.size v' ∧ Turn (fun _ => False) w w' := by
  obtain ⟨A, c, rfl⟩ := h.len
  obtain ⟨n, hn⟩ : ∃ n, L.length = n := ⟨_, rfl⟩
  have HN := Lib.hid hn
  have hc := hcv _ _ _ rfl
  have HRC := Lib.hid h.rc
  rw [hn] at hc hb ⊢
  clear hcv
  have q22 : ∀ (w : World) (a : Option Addr) (n c n' c' : Nat), (binOp .eql 23 (.slice a n c) (.slice none n' c')).run Try.prog w = .ok (.bool a.isNone) w := fun w a n c n' c' => Lib.run_eql_slice_nil w _ _ a n c n' c' Try.underlying23
  cases A with
  | none =>
    have h0 : n = 0 := by
      rcases Nat.eq_zero_or_pos n with h0 | h0
      · exact h0
      · obtain ⟨b, o, e, _⟩ := HRC.out (by rw [flat_len vc_len]; omega)
        cases e
    subst h0
    have hL : L = [] := List.eq_nil_of_length_eq_zero hn
    subst hL
    clear hn h
    go_enter Try.func71, Try.ntmps71
    go_wp2_with fail
    go_ret
    exact ⟨_, rfl, ⟨none, 0, rfl, by simp, fun h => by simp at h⟩, fun A n c e => by (injection e with e1 e2 e3; exact ⟨by omega, fun h => by omega⟩), Turn.refl _ _⟩
  | some ad =>
    have HRC2 : Hid (Rc (w.alloc (.cells #[] 103)) (some ad) (L.flatMap vc)) := Lib.hid (HRC.out.still ((Turn.refl _ _).alloc _))
    clear hn h
    go_enter Try.func71, Try.ntmps71
    go_wp2_with (at_builtin; refine wpList_app_bare rfl _ _ 23 rfl 103 _ 3 32 Try.underlying23 info_vn rfl (by decide) _ rfl (some ad) n c (L.flatMap vc) rfl (by rw [flat_len vc_len, HN.out]) HRC2.out (vcs_one _) (by unfold maxLen; omega) (by omega) ?_; intro A9 c9 w9 hr9 hm9 ht9; have R9 := Lib.hid hr9; have C9 := Lib.hid hm9; have T9 := Lib.hid ht9; clear hr9 hm9 ht9)
    go_ret
    refine ⟨_, rfl, ?_, fun A n c e => by (injection e with e1 e2 e3; subst e1 e2 e3; exact ⟨C9.out.1, fun h a e => Nat.le_trans (by simp) (C9.out.2 h a e)⟩), ((Turn.refl _ _).alloc _).trans T9.out⟩
    have h9 := vr_of (c := c9) R9.out (by rw [HN.out]; omega)
    rw [HN.out] at h9
    exact h9
end Go.Proofs.Ytobddfpdijmgiaa
/- Layer 14: rows of items of the call's own; the document's with. (mkSpC.py) -/
namespace Go.Proofs.Ytobddfpdijmgiaa
open Go.RowKit
set_option linter.unusedVariables false
set_option linter.unusedSimpArgs false
set_option maxRecDepth 100000

theorem info_it : (Try.prog.info? 25).map (fun i => (i.zero, i.size, i.bytes)) = some (some (.agg #[.string ByteArray.empty, .slice none 0 0]), 2, 40) := by kernel_rfl
theorem Vr.one {w : World} {v : Value} {L : List Vn} (h : Vr w v L) : v.oneCell' = true := by obtain ⟨A, c, e⟩ := h.len; rw [e]; rfl
theorem Iw.one {w : World} {M : List (Itm × Value)} (h : Iw w M) : ∀ u ∈ M.flatMap ic, u.oneCell' = true := fun u hu => by
  obtain ⟨p, hp, hx⟩ := List.mem_flatMap.1 hu
  simp [ic] at hx
  rcases hx with rfl | rfl
  · rfl
  · exact (h p hp).one
/-- A slice's block. -/
def vb : Value → Option Nat
  | .slice (some ad) _ _ => some ad.block
  | _ => none
theorem Vr.at_ {w : World} {v : Value} {L : List Vn} (h : Vr w v L) (hp : 0 < L.length) : ∃ b, vb v = some b ∧ b < w.heap.size := by
  obtain ⟨A, c, rfl, hl, hr⟩ := h
  obtain ⟨b, o, rfl, hb, _⟩ := hr hp
  exact ⟨b, rfl, hb⟩
theorem Vr.turn {S : Nat → Prop} {w w' : World} {v : Value} {L : List Vn} (h : Vr w v L) (ht : Turn S w w') (hf : 0 < L.length → ∀ b, vb v = some b → ¬ S b) : Vr w' v L := by
  obtain ⟨A, c, rfl, hl, hr⟩ := h
  refine ⟨A, c, rfl, hl, fun hp => ?_⟩
  obtain ⟨b, o, rfl, hb, hc⟩ := hr hp
  have hk : ∀ j, w'.cell? ⟨b, j, none⟩ = w.cell? ⟨b, j, none⟩ := fun j => World.cell?_of_block (w := w) (a := ⟨b, j, none⟩) (ht.block b hb (hf hp b rfl))
  exact ⟨b, o, rfl, Nat.lt_of_lt_of_le hb ht.size, fun j x hj => by rw [hk, hk, hk]; exact hc j x hj⟩
/-- Versions that lie apart from a set of blocks. -/
def VrF (S : Nat → Prop) (w : World) (v : Value) (L : List Vn) : Prop := Vr w v L ∧ (0 < L.length → ∀ b, vb v = some b → ¬ S b)
/-- A row of items of the call's own; their versions lie apart from it. -/
def Io (B : Nat) (w : World) (v : Value) (M : List (Itm × Value)) : Prop := w.ownsRow B 25 2 v M.length (M.flatMap ic) ∧ ∀ p ∈ M, VrF (fun k => v.ownBlock = some k) w p.2 p.1.vs
theorem own_still_ {B t s n : Nat} {w w' : World} {v : Value} {xs : List Value} (h : w.ownsRow B t s v n xs) (ht : Turn (fun _ => False) w w') : w'.ownsRow B t s v n xs := by
  obtain ⟨hl, ⟨e, h0⟩ | ⟨g, cap, cur, e, hB, hh, hn, hc, hs, htk⟩⟩ := h
  · exact ⟨hl, .inl ⟨e, h0⟩⟩
  · exact ⟨hl, .inr ⟨g, cap, cur, e, hB, (ht.block g (Array.getElem?_eq_some_iff.1 hh).1 (fun h => h)).trans hh, hn, hc, hs, htk⟩⟩
theorem Io.still {B : Nat} {w w' : World} {v : Value} {M : List (Itm × Value)} (h : Io B w v M) (ht : Turn (fun _ => False) w w') : Io B w' v M := ⟨own_still_ h.1 ht, fun p hp => ⟨(h.2 p hp).1.still ht, (h.2 p hp).2⟩⟩
theorem Io.ix {B : Nat} {w : World} {v : Value} {M : List (Itm × Value)} (h : Io B w v M) (hl : M.length ≤ 9223372036854775807) : Ix w v M := by
  obtain ⟨A, c, rfl⟩ := own_slice_ h.1
  exact ⟨A, c, rfl, hl, rc_own h.1, fun p hp => (h.2 p hp).1⟩
theorem io_nil (B : Nat) (w : World) : Io B w (.slice none 0 0) [] := ⟨⟨rfl, .inl ⟨rfl, rfl⟩⟩, fun p hp => by cases hp⟩
/-- What lay ahead of a row's base lies apart from the row. -/
theorem Vr.apart {B t s n : Nat} {w0 w : World} {v u : Value} {xs : List Value} {L : List Vn} (h0 : Vr w0 u L) (h : Vr w u L) (hB : w0.heap.size ≤ B) (ho : w.ownsRow B t s v n xs) : VrF (fun k => v.ownBlock = some k) w u L :=
  ⟨h, fun hp b hb hk => by
    obtain ⟨b', e1, h1⟩ := h0.at_ hp
    rw [hb] at e1
    cases e1
    have := (own_ge9 ho b hk).1
    omega⟩
theorem wpList_app1i {w : World} {ops : Array Oper} {rest : List Oper} {o : Oper} {a : Act} {Q : Exit → Act → World → Prop} (hgd : o.guard = none) (x y : Operand)
    (ho : o.op = .call { callee := .builtin .append, args := #[x, y], argTypes := #[22, 22] })
    (B : Nat) (v : Value) (M : List (Itm × Value)) (n q : Nat) (z : Itm) (u : Value) (hx : a.eval x = v) (hn : M.length = n) (hown : Io B w v M) (hy : a.eval y = .slice (some ⟨q, 0, none⟩) 1 1) (hq : Blk w q 25 [.string z.k, u]) (hu : VrF (fun k => v.ownBlock = some k) w u z.vs) (hb : n ≤ 1000000) (hB : B ≤ w.heap.size)
    (h : ∀ A' c' w', Io B w' (.slice A' (n + 1) c') (M ++ [(z, u)]) → Turn (fun k => v.ownBlock = some k) w w' → wpList Try.prog ops Q rest (a.put o.dst (.slice A' (n + 1) c')) w') : wpList Try.prog ops Q (o :: rest) a w := by
  subst hn
  refine wpList_app_rc hgd x y 22 ho B 25 _ 2 40 Try.underlying22 info_it rfl (by decide) v M.length (M.flatMap ic) hx hown.1 (some ⟨q, 0, none⟩) 1 1 [.string z.k, u] hy rfl hq.rc (fun s hs => by
    simp at hs
    rcases hs with rfl | rfl
    · rfl
    · exact hu.1.one) (by unfold maxLen; omega) (by omega) hB ?_
  intro A' c' w' h1 h2 h3
  refine h A' c' w' ⟨?_, fun p hp => ?_⟩ h2
  · rw [List.length_append, List.flatMap_append, List.length_singleton, List.flatMap_singleton]
    exact h1
  · have key : VrF (fun k => v.ownBlock = some k) w p.2 p.1.vs := by
      rcases List.mem_append.1 hp with hp | hp
      · exact hown.2 p hp
      · simp at hp; subst hp; exact hu
    refine ⟨key.1.turn h2 key.2, fun hp b hb hk => ?_⟩
    rcases h3 with h3 | h3
    · rw [h3] at hk; exact key.2 hp b hb hk
    · obtain ⟨b', e1, h4⟩ := key.1.at_ hp
      rw [hb] at e1
      cases e1
      have hk2 : (Value.slice A' (M.length + 1) c').ownBlock = some b := hk
      rw [h3] at hk2
      cases hk2
      omega
def wst (z : Itm × Value) (st : List (Itm × Value) × Bool) (x : Itm × Value) : List (Itm × Value) × Bool :=
  if (x.1.k.toList == z.1.k.toList) then (if !st.2 && !lt14 x.1.k z.1.k then (st.1 ++ [z], true) else st)
  else ((if !st.2 && !lt14 x.1.k z.1.k then st.1 ++ [z] else st.1) ++ [x], if !st.2 && !lt14 x.1.k z.1.k then true else st.2)
def wth (M : List (Itm × Value)) (z : Itm × Value) : List (Itm × Value) :=
  if (M.foldl (wst z) ([], z.1.vs.isEmpty)).2 then (M.foldl (wst z) ([], z.1.vs.isEmpty)).1 else (M.foldl (wst z) ([], z.1.vs.isEmpty)).1 ++ [z]
set_option maxHeartbeats 8000000 in
theorem refWith14 (M : List (Itm × Value)) (v u : Value) (key : ByteArray) (V : List Vn) (w : World) (h : Ix w v M) (hu : Vr w u V) (hk : key.size ≤ 140737488351232) (hks : ∀ p ∈ M, p.1.k.size ≤ 140737488351232) (hb : M.length ≤ 100000) :
    Calls Try.prog 113 #[v, .string key, u] w fun e w' => ∃ v', e = .returned v' ∧ Io w.heap.size w' v' (wth M (⟨key, V⟩, u)) ∧ Turn (fun _ => False) w w' := by
  obtain ⟨A, c, rfl, hl, hr, hw⟩ := h
  obtain ⟨n, hn⟩ : ∃ n, M.length = n := ⟨_, rfl⟩
  have HN := Lib.hid hn
  have HR := Lib.hid hr
  have HW := Lib.hid hw
  have HBE := Lib.hid (fun (k : ByteArray) (h : k.size ≤ 140737488351232) W => below_t k key h hk W)
  have HKS := Lib.hid hks
  rw [hn] at hl hb ⊢
  have HU := Lib.hid hu
  obtain ⟨AU, cU, e⟩ := hu.len
  subst e
  obtain ⟨m, hm⟩ : ∃ m, V.length = m := ⟨_, rfl⟩
  have HE : Hid (V.isEmpty = ((m : Int) == 0)) := Lib.hid (by rw [← hm]; cases V with
    | nil => rfl
    | cons a l => simp; omega)
  have HUF : Hid (∀ X, Turn (fun _ => False) w X → ∀ s k (vv : Value) (xs : List Value), X.ownsRow w.heap.size 25 s vv k xs → VrF (fun k => vv.ownBlock = some k) X (.slice AU m cU) V) := Lib.hid (fun X hX s k vv xs ho => by rw [← hm]; exact Vr.apart HU.out (HU.out.still hX) (Nat.le_refl _) ho)
  rw [hm] at HU ⊢
  obtain ⟨e0, he0⟩ : ∃ e0, ((m : Int) == 0) = e0 := ⟨_, rfl⟩
  rw [he0] at HE
  unfold wth
  simp only
  rw [HE.out]
  have HE0 := Lib.hid he0
  clear hn hr hw hk hks hu hm
  obtain ⟨R, hR⟩ : ∃ R, M.foldl (wst (⟨key, V⟩, .slice AU m cU)) ([], e0) = R := ⟨_, rfl⟩
  have HRR := Lib.hid hR
  rw [hR]
  clear hR
  obtain ⟨RZ, hRZ⟩ : ∃ q, (if R.2 = true then R.1 else R.1 ++ [((⟨key, V⟩ : Itm), Value.slice AU m cU)]) = q := ⟨_, rfl⟩
  have HRZ := Lib.hid hRZ
  rw [hRZ]
  clear hRZ
  go_enter Try.func113, Try.ntmps113
  go_wp2_with fail
  go_loopw [7, 8, 9] (fun v7 v8 v9 wr => ∃ (i : Nat) (F : List (Itm × Value)) (lb : Bool), i ≤ n ∧ v9 = .int .i64 i ∧ v8 = .bool lb ∧ Hid ((M.take i).foldl (wst (⟨key, V⟩, .slice AU m cU)) ([], e0) = (F, lb)) ∧ Hid (F.length ≤ 2 * i) ∧ Io w.heap.size wr v7 F ∧ Turn (fun _ => False) w wr) (fun _ _ v9 _ => n - (intOf v9).toNat)
  case atStart => exact ⟨0, [], e0, Nat.zero_le _, rfl, by first | rfl | simp, Lib.hid rfl, Lib.hid (Nat.le_refl _), io_nil _ _, Turn.refl _ _⟩
  case round =>
    clear he0
    obtain ⟨i, F, lb, hi, rfl, rfl, HST, HFB, ho, ht⟩ := hrel
    obtain ⟨wx, rfl⟩ : ∃ W, W = wr := ⟨_, rfl⟩
    obtain ⟨AF, cF, rfl⟩ := own_slice_ ho.1
    obtain ⟨f, hf⟩ : ∃ f, F.length = f := ⟨_, rfl⟩
    have HFL := Lib.hid hf
    have TT := Lib.hid ht
    rw [hf] at ho HFB ⊢
    have HO := Lib.hid ho
    have hfb := HFB.out
    clear ho ht hf
    by_cases hlt : i < n
    · have hl1 : (i : Int) < (n : Int) := by omega
      have hl0 : (0 : Int) ≤ (i : Int) := by omega
      have hq := wrap_of ((i : Int) + 1) (by omega) (by omega)
      obtain ⟨p, hp⟩ : ∃ p, M[i]? = some p := ⟨_, List.getElem?_eq_getElem (by rw [HN.out]; exact hlt)⟩
      have HP := Lib.hid hp
      obtain ⟨b, o, rfl, hb1, hc⟩ := HR.out.item (by rw [HN.out]; omega)
      have HCW := Lib.hid (fun X (hX : Turn (fun _ => False) w X) => hc X hX i p hp)
      have hv := HW.out p (List.mem_of_getElem? hp)
      have HB1 := Lib.hid (HBE.out p.1.k (HKS.out p (List.mem_of_getElem? hp)))
      obtain ⟨⟨pk, pvs⟩, pv⟩ := p
      simp only at hv HB1 HCW
      obtain ⟨AV, cV, e⟩ := hv.len
      subst e
      obtain ⟨mp, hmp⟩ : ∃ m, pvs.length = m := ⟨_, rfl⟩
      have HPV : Hid (∀ X, Turn (fun _ => False) w X → ∀ s k (vv : Value) (xs : List Value), (∃ Y, Turn (fun _ => False) w Y ∧ Y.ownsRow w.heap.size 25 s vv k xs) → VrF (fun k => vv.ownBlock = some k) X (.slice AV mp cV) pvs) := Lib.hid (fun X hX s k vv xs ⟨Y, hY, ho⟩ => by
        rw [← hmp]
        exact ⟨hv.still hX, (Vr.apart hv (hv.still hY) (Nat.le_refl _) ho).2⟩)
      rw [hmp] at HP HCW
      obtain ⟨c0, c1⟩ := HCW.out wx TT.out
      clear hp hb1 hc hv hmp
      cases lb with
      | true =>
        cases hke : (pk.toList == key.toList) with
        | true =>
          have hkn : (pk.toList != key.toList) = false := by simp only [bne, hke]; rfl
          have HNX : Hid ((M.take (i + 1)).foldl (wst (⟨key, V⟩, .slice AU m cU)) ([], e0) = (F, true)) := Lib.hid (by rw [take_next HP.out, List.foldl_append, HST.out]; simp [wst, show ((!true) = false) from rfl, hke])
          go_wp2_with fail
          go_roundw
          case rel => exact ⟨i + 1, _, true, by omega, by simp [hq], rfl, HNX, Lib.hid (by have := HFL.out; omega), HO.out, TT.out⟩
          case measure => simp [intOf, hq]; omega
        | false =>
          have hkn : (pk.toList != key.toList) = true := by simp only [bne, hke]; rfl
          have HNX : Hid ((M.take (i + 1)).foldl (wst (⟨key, V⟩, .slice AU m cU)) ([], e0) = (F ++ [(⟨pk, pvs⟩, .slice AV mp cV)], true)) := Lib.hid (by rw [take_next HP.out, List.foldl_append, HST.out]; simp [wst, show ((!true) = false) from rfl, hke])
          go_wp2_with (at_builtin; refine wpList_app1i rfl _ _ rfl w.heap.size (.slice AF f cF) F f wx.heap.size ⟨pk, pvs⟩ (.slice AV mp cV) rfl HFL.out (HO.out.still ((Turn.refl _ _).alloc _)) rfl (Blk.new wx 25 [.string pk, (.slice AV mp cV)]) (HPV.out _ (TT.out.alloc _) _ _ _ _ ⟨_, TT.out, HO.out.1⟩) (by omega) (by have := TT.out.size; rw [World.size_alloc]; omega) ?_; intro A8 c8 w8 ho7 ht7; have O8 := Lib.hid ho7; have T8 := Lib.hid ((TT.out.alloc (.cells #[.string pk, (.slice AV mp cV)] 25)).trans_new ht7 (fun k hk h => by have := (own_ge9 HO.out.1 k h).1; omega)); clear ho7 ht7)
          go_roundw
          case rel => exact ⟨i + 1, _, true, by omega, by simp [hq], rfl, HNX, Lib.hid (by rw [List.length_append]; simp only [List.length_singleton]; have := HFL.out; omega), O8.out, T8.out⟩
          case measure => simp [intOf, hq]; omega
      | false =>
        go_wp2_with fail
        refine (HB1.out _).mono ?_
        rintro e w1 ⟨rfl, ht1⟩
        have T1 := Lib.hid (TT.out.trans ht1)
        have O1 := Lib.hid (HO.out.still ht1)
        obtain ⟨d0, d1⟩ := HCW.out w1 T1.out
        have HLT : Hid (lt14 pk key = Op.bytesLess pk.data.toList key.data.toList) := Lib.hid rfl
        rw [← HLT.out]
        clear ht1 c0 c1 HLT
        cases hlk : lt14 pk key with
        | true =>
          cases hke : (pk.toList == key.toList) with
          | true =>
            have hkn : (pk.toList != key.toList) = false := by simp only [bne, hke]; rfl
            have HNX : Hid ((M.take (i + 1)).foldl (wst (⟨key, V⟩, .slice AU m cU)) ([], e0) = (F, false)) := Lib.hid (by rw [take_next HP.out, List.foldl_append, HST.out]; simp [wst, hlk, hke])
            go_wp2_with fail
            go_roundw
            case rel => exact ⟨i + 1, _, false, by omega, by simp [hq], rfl, HNX, Lib.hid (by have := HFL.out; omega), O1.out, T1.out⟩
            case measure => simp [intOf, hq]; omega
          | false =>
            have hkn : (pk.toList != key.toList) = true := by simp only [bne, hke]; rfl
            have HNX : Hid ((M.take (i + 1)).foldl (wst (⟨key, V⟩, .slice AU m cU)) ([], e0) = (F ++ [(⟨pk, pvs⟩, .slice AV mp cV)], false)) := Lib.hid (by rw [take_next HP.out, List.foldl_append, HST.out]; simp [wst, hlk, hke])
            go_wp2_with (at_builtin; refine wpList_app1i rfl _ _ rfl w.heap.size (.slice AF f cF) F f w1.heap.size ⟨pk, pvs⟩ (.slice AV mp cV) rfl HFL.out (O1.out.still ((Turn.refl _ _).alloc _)) rfl (Blk.new w1 25 [.string pk, (.slice AV mp cV)]) (HPV.out _ (T1.out.alloc _) _ _ _ _ ⟨_, T1.out, O1.out.1⟩) (by omega) (by have := T1.out.size; rw [World.size_alloc]; omega) ?_; intro A8 c8 w8 ho7 ht7; have O8 := Lib.hid ho7; have T8 := Lib.hid ((T1.out.alloc (.cells #[.string pk, (.slice AV mp cV)] 25)).trans_new ht7 (fun k hk h => by have := (own_ge9 O1.out.1 k h).1; omega)); clear ho7 ht7)
            go_roundw
            case rel => exact ⟨i + 1, _, false, by omega, by simp [hq], rfl, HNX, Lib.hid (by rw [List.length_append]; simp only [List.length_singleton]; have := HFL.out; omega), O8.out, T8.out⟩
            case measure => simp [intOf, hq]; omega
        | false =>
          go_upto_region 8 with (first | (at_builtin; refine wpList_app1i rfl _ _ rfl w.heap.size (.slice AF f cF) F f w1.heap.size ⟨key, V⟩ (.slice AU m cU) rfl HFL.out (O1.out.still ((Turn.refl _ _).alloc _)) rfl (Blk.new w1 25 [.string key, (.slice AU m cU)]) (HUF.out _ (T1.out.alloc _) _ _ _ _ (O1.out.still ((Turn.refl _ _).alloc _)).1) (by omega) (by have := T1.out.size; rw [World.size_alloc]; omega) ?_; intro A7 c7 w7 ho7 ht7; have O7 := Lib.hid ho7; have T7 := Lib.hid ((T1.out.alloc (.cells #[.string key, (.slice AU m cU)] 25)).trans_new ht7 (fun k hk h => by have := (own_ge9 O1.out.1 k h).1; omega)); obtain ⟨d0, d1⟩ := HCW.out w7 T7.out; clear ho7 ht7) | fail)
          have HFL7 : Hid ((F ++ [((⟨key, V⟩ : Itm), Value.slice AU m cU)]).length = f + 1) := Lib.hid (by rw [List.length_append, HFL.out]; rfl)
          have hfb7 : f + 1 ≤ 300000 := by omega
          obtain ⟨f7, hf7⟩ : ∃ q, f + 1 = q := ⟨_, rfl⟩
          have HF7 := Lib.hid hf7
          rw [hf7] at HFL7 O7 hfb7 ⊢
          clear hf7
          obtain ⟨F7, hF7⟩ : ∃ q, F ++ [((⟨key, V⟩ : Itm), Value.slice AU m cU)] = q := ⟨_, rfl⟩
          have HFE7 := Lib.hid hF7
          rw [hF7] at HFL7 O7
          clear hF7
          cases hke : (pk.toList == key.toList) with
          | true =>
            have hkn : (pk.toList != key.toList) = false := by simp only [bne, hke]; rfl
            have HNX : Hid ((M.take (i + 1)).foldl (wst (⟨key, V⟩, .slice AU m cU)) ([], e0) = (F7, true)) := Lib.hid (by rw [take_next HP.out, List.foldl_append, HST.out]; simp [wst, hlk, HFE7.out, hke])
            go_wp2_with fail
            go_roundw
            case rel => exact ⟨i + 1, _, true, by omega, by simp [hq], rfl, HNX, Lib.hid (by have := HFL7.out; have := HF7.out; omega), O7.out, T7.out⟩
            case measure => simp [intOf, hq]; omega
          | false =>
            have hkn : (pk.toList != key.toList) = true := by simp only [bne, hke]; rfl
            have HNX : Hid ((M.take (i + 1)).foldl (wst (⟨key, V⟩, .slice AU m cU)) ([], e0) = (F7 ++ [(⟨pk, pvs⟩, .slice AV mp cV)], true)) := Lib.hid (by rw [take_next HP.out, List.foldl_append, HST.out]; simp [wst, hlk, HFE7.out, hke])
            go_wp2_with (at_builtin; refine wpList_app1i rfl _ _ rfl w.heap.size (.slice A7 f7 c7) F7 f7 w7.heap.size ⟨pk, pvs⟩ (.slice AV mp cV) rfl HFL7.out (O7.out.still ((Turn.refl _ _).alloc _)) rfl (Blk.new w7 25 [.string pk, (.slice AV mp cV)]) (HPV.out _ (T7.out.alloc _) _ _ _ _ ⟨_, T7.out, O7.out.1⟩) (by omega) (by have := T7.out.size; rw [World.size_alloc]; omega) ?_; intro A8 c8 w8 ho7 ht7; have O8 := Lib.hid ho7; have T8 := Lib.hid ((T7.out.alloc (.cells #[.string pk, (.slice AV mp cV)] 25)).trans_new ht7 (fun k hk h => by have := (own_ge9 O7.out.1 k h).1; omega)); clear ho7 ht7)
            go_roundw
            case rel => exact ⟨i + 1, _, true, by omega, by simp [hq], rfl, HNX, Lib.hid (by rw [List.length_append]; simp only [List.length_singleton]; have := HFL7.out; have := HF7.out; omega), O8.out, T8.out⟩
            case measure => simp [intOf, hq]; omega
    · obtain rfl : i = n := by omega
      have HRE : Hid (R = (F, lb)) := Lib.hid (by rw [← HRR.out, ← HST.out, ← HN.out, List.take_length])
      cases lb with
      | true =>
        have HRF : Hid (RZ = F) := Lib.hid (by rw [← HRZ.out, HRE.out]; rfl)
        go_wp2_with fail
        go_ret
        exact ⟨_, rfl, by rw [HRF.out]; exact HO.out, TT.out⟩
      | false =>
        have HRF : Hid (RZ = F ++ [((⟨key, V⟩ : Itm), Value.slice AU m cU)]) := Lib.hid (by rw [← HRZ.out, HRE.out]; rfl)
        go_wp2_with (at_builtin; refine wpList_app1i rfl _ _ rfl w.heap.size (.slice AF f cF) F f wx.heap.size ⟨key, V⟩ (.slice AU m cU) rfl HFL.out (HO.out.still ((Turn.refl _ _).alloc _)) rfl (Blk.new wx 25 [.string key, (.slice AU m cU)]) (HUF.out _ (TT.out.alloc _) _ _ _ _ (HO.out.still ((Turn.refl _ _).alloc _)).1) (by omega) (by have := TT.out.size; rw [World.size_alloc]; omega) ?_; intro A7 c7 w7 ho7 ht7; have O7 := Lib.hid ho7; have T7 := Lib.hid ((TT.out.alloc (.cells #[.string key, (.slice AU m cU)] 25)).trans_new ht7 (fun k hk h => by have := (own_ge9 HO.out.1 k h).1; omega)); clear ho7 ht7)
        go_ret
        exact ⟨_, rfl, by rw [HRF.out]; exact O7.out, T7.out⟩
end Go.Proofs.Ytobddfpdijmgiaa
/- Layer 14: the program's space: what it holds; small calls; none. -/
namespace Go.Proofs.Ytobddfpdijmgiaa
open Go.RowKit
set_option linter.unusedVariables false
set_option linter.unusedSimpArgs false
set_option maxRecDepth 100000

def look (M : List (Itm × Value)) (k : List UInt8) : Option Value := (M.find? (fun p => p.1.k.toList == k)).map (·.2)
def keysM (M : List (Itm × Value)) : List ByteArray := M.map (fun p => p.1.k)
/-- The blocks of a space. -/
def Sw (q : Nat) (vk : Value) (g : Nat) (k : Nat) : Prop := k = q ∨ k = g ∨ vk.ownBlock = some k
structure Sp (w : World) (q : Nat) (vk : Value) (g : Nat) (M : List (Itm × Value)) (last mark : Int) : Prop where
  box : Blk w q 116 [vk, .map (some g), .int .i64 last, .int .i64 mark]
  keys : Kr w vk (keysM M)
  map : Mp w g M.length (look M)
  vers : ∀ p ∈ M, VrF (Sw q vk g) w p.2 p.1.vs ∧ Cv p.2 ∧ p.1.vs ≠ []
  ord : risK (keysM M)
  sep : q ≠ g ∧ ∀ b, vk.ownBlock = some b → b ≠ q ∧ b ≠ g
theorem VrF.turn {S T : Nat → Prop} {w w' : World} {u : Value} {L : List Vn} (h : VrF S w u L) (ht : Turn T w w') (hs : ∀ k, k < w.heap.size → T k → S k) : VrF S w' u L := by
  refine ⟨?_, h.2⟩
  refine h.1.turn ht (fun hp b hb hT => ?_)
  obtain ⟨b', e, hl⟩ := h.1.at_ hp
  rw [hb] at e
  cases e
  exact h.2 hp b hb (hs b hl hT)
theorem Sp.turn {S : Nat → Prop} {w w' : World} {q g : Nat} {vk : Value} {M : List (Itm × Value)} {last mark : Int} (h : Sp w q vk g M last mark) (ht : Turn S w w') (hq : ¬ S q) (hg : ¬ S g) (hk : ∀ k, vk.ownBlock = some k → ¬ S k)
    (hv : ∀ p ∈ M, 0 < p.1.vs.length → ∀ b, vb p.2 = some b → ¬ S b) : Sp w' q vk g M last mark where
  box := h.box.turn ht hq
  keys := h.keys.turn ht hk
  map := h.map.turn ht hg
  vers p hp := ⟨⟨(h.vers p hp).1.1.turn ht (hv p hp), (h.vers p hp).1.2⟩, (h.vers p hp).2⟩
  ord := h.ord
  sep := h.sep
theorem Sp.still {w w' : World} {q g : Nat} {vk : Value} {M : List (Itm × Value)} {last mark : Int} (h : Sp w q vk g M last mark) (ht : Turn (fun _ => False) w w') : Sp w' q vk g M last mark :=
  h.turn ht (fun h => h) (fun h => h) (fun _ _ h => h) (fun _ _ _ _ _ h => h)
theorem Sp.below {w : World} {q g : Nat} {vk : Value} {M : List (Itm × Value)} {last mark : Int} (h : Sp w q vk g M last mark) : ∀ k, Sw q vk g k → k < w.heap.size := by
  rintro k (rfl | rfl | hk)
  · exact h.box.lt
  · exact h.map.lt
  · exact h.keys.lt k hk
/-- No space, or one that nothing made. -/
def Nos (w : World) (v : Value) : Prop := v = .pointer none ∨ ∃ q vk a b, v = .pointer (some ⟨q, 0, none⟩) ∧ Blk w q 116 [vk, .map none, a, b]
theorem Nos.still {w w' : World} {v : Value} (h : Nos w v) (ht : Turn (fun _ => False) w w') : Nos w' v := by
  rcases h with rfl | ⟨q, vk, a, b, rfl, h⟩
  · exact .inl rfl
  · exact .inr ⟨q, vk, a, b, rfl, h.turn ht (fun h => h)⟩
theorem neq_map14 (w : World) (m : Option Nat) : (binOp .neq 114 (.map m) (.map none)).run Try.prog w = .ok (.bool (!m.isNone)) w := run_neq_map_nil w _ _ _ m Try.underlying114
theorem made14 {w : World} {q g : Nat} {vk : Value} {M : List (Itm × Value)} {last mark : Int} (h : Sp w q vk g M last mark) :
    Calls Try.prog 66 #[.pointer (some ⟨q, 0, none⟩)] w fun e w' => e = .returned (.bool true) ∧ w' = w := by
  have c1 := h.box.cell 1
  have e1 := neq_map14
  simp only [List.getElem?_cons_succ, List.getElem?_cons_zero] at c1
  clear h
  go_enter Try.func66, Try.ntmps66
  go_wp2
  go_ret
  exact ⟨rfl, rfl⟩
theorem made14_no {w : World} {v : Value} (h : Nos w v) :
    Calls Try.prog 66 #[v] w fun e w' => e = .returned (.bool false) ∧ w' = w := by
  have e1 := neq_map14
  rcases h with rfl | ⟨q, vk, a, b, rfl, h⟩
  · go_enter Try.func66, Try.ntmps66
    go_wp2
    go_ret
    exact ⟨rfl, rfl⟩
  · have c1 := h.cell 1
    simp only [List.getElem?_cons_succ, List.getElem?_cons_zero] at c1
    clear h
    go_enter Try.func66, Try.ntmps66
    go_wp2
    go_ret
    exact ⟨rfl, rfl⟩
theorem tells14 {w : World} {q g : Nat} {vk : Value} {M : List (Itm × Value)} {last mark : Int} (t : Int) (h : Sp w q vk g M last mark) :
    Calls Try.prog 63 #[.pointer (some ⟨q, 0, none⟩), .int .i64 t] w fun e w' => e = .returned (.int .i64 (kept14 last mark t)) ∧ w' = w := by
  have HM := Lib.hid (made14 h)
  have c2 := h.box.cell 2
  have c3 := h.box.cell 3
  simp only [List.getElem?_cons_succ, List.getElem?_cons_zero] at c2 c3
  clear h
  unfold kept14
  by_cases h1 : t < mark
  · rw [if_pos h1]
    go_enter Try.func63, Try.ntmps63
    go_wp2_with (go_at_call 66; refine HM.out.mono ?_; rintro e w' ⟨rfl, rfl⟩)
    go_ret
    exact ⟨rfl, rfl⟩
  · rw [if_neg h1]
    by_cases h2 : last < t
    · rw [if_pos h2]
      go_enter Try.func63, Try.ntmps63
      go_wp2_with (go_at_call 66; refine HM.out.mono ?_; rintro e w' ⟨rfl, rfl⟩)
      go_ret
      exact ⟨rfl, rfl⟩
    · rw [if_neg h2]
      go_enter Try.func63, Try.ntmps63
      go_wp2_with (go_at_call 66; refine HM.out.mono ?_; rintro e w' ⟨rfl, rfl⟩)
      go_ret
      exact ⟨rfl, rfl⟩
theorem tells14_no {w : World} {v : Value} (t : Int) (h : Nos w v) :
    Calls Try.prog 63 #[v, .int .i64 t] w fun e w' => e = .returned (.int .i64 1) ∧ w' = w := by
  have HM := Lib.hid (made14_no h)
  clear h
  go_enter Try.func63, Try.ntmps63
  go_wp2_with (go_at_call 66; refine HM.out.mono ?_; rintro e w' ⟨rfl, rfl⟩)
  go_ret
  exact ⟨rfl, rfl⟩
theorem last14 {w : World} {q g : Nat} {vk : Value} {M : List (Itm × Value)} {last mark : Int} (h : Sp w q vk g M last mark) :
    Calls Try.prog 28 #[.pointer (some ⟨q, 0, none⟩)] w fun e w' => e = .returned (.int .i64 last) ∧ w' = w := by
  have HM := Lib.hid (made14 h)
  have c2 := h.box.cell 2
  simp only [List.getElem?_cons_succ, List.getElem?_cons_zero] at c2
  clear h
  go_enter Try.func28, Try.ntmps28
  go_wp2_with (go_at_call 66; refine HM.out.mono ?_; rintro e w' ⟨rfl, rfl⟩)
  go_ret
  exact ⟨rfl, rfl⟩
theorem mark14 {w : World} {q g : Nat} {vk : Value} {M : List (Itm × Value)} {last mark : Int} (h : Sp w q vk g M last mark) :
    Calls Try.prog 24 #[.pointer (some ⟨q, 0, none⟩)] w fun e w' => e = .returned (.int .i64 mark) ∧ w' = w := by
  have HM := Lib.hid (made14 h)
  have c3 := h.box.cell 3
  simp only [List.getElem?_cons_succ, List.getElem?_cons_zero] at c3
  clear h
  go_enter Try.func24, Try.ntmps24
  go_wp2_with (go_at_call 66; refine HM.out.mono ?_; rintro e w' ⟨rfl, rfl⟩)
  go_ret
  exact ⟨rfl, rfl⟩
theorem last14_no {w : World} {v : Value} (h : Nos w v) :
    Calls Try.prog 28 #[v] w fun e w' => e = .returned (.int .i64 0) ∧ w' = w := by
  have HM := Lib.hid (made14_no h)
  clear h
  go_enter Try.func28, Try.ntmps28
  go_wp2_with (go_at_call 66; refine HM.out.mono ?_; rintro e w' ⟨rfl, rfl⟩)
  go_ret
  exact ⟨rfl, rfl⟩
theorem mark14_no {w : World} {v : Value} (h : Nos w v) :
    Calls Try.prog 24 #[v] w fun e w' => e = .returned (.int .i64 0) ∧ w' = w := by
  have HM := Lib.hid (made14_no h)
  clear h
  go_enter Try.func24, Try.ntmps24
  go_wp2_with (go_at_call 66; refine HM.out.mono ?_; rintro e w' ⟨rfl, rfl⟩)
  go_ret
  exact ⟨rfl, rfl⟩
theorem get14_no {w : World} {v : Value} (key : ByteArray) (t : Int) (h : Nos w v) :
    Calls Try.prog 23 #[v, .string key, .int .i64 t] w fun e w' => e = .returned (.tuple #[.string ByteArray.empty, .int .i64 1]) ∧ w' = w := by
  have HM := Lib.hid (tells14_no t h)
  clear h
  go_enter Try.func23, Try.ntmps23
  go_wp2_with (go_at_call 63; refine HM.out.mono ?_; rintro e w' ⟨rfl, rfl⟩)
  go_ret2
  exact ⟨rfl, rfl⟩
theorem apply14_no {w : World} {v : Value} (t : Int) (l : Value) (h : Nos w v) :
    Calls Try.prog 26 #[v, .int .i64 t, l] w fun e w' => e = .returned (.int .i64 1) ∧ w' = w := by
  have HM := Lib.hid (made14_no h)
  clear h
  go_enter Try.func26, Try.ntmps26
  go_wp2_with (go_at_call 66; refine HM.out.mono ?_; rintro e w' ⟨rfl, rfl⟩)
  go_ret
  exact ⟨rfl, rfl⟩
theorem copy14_no {w : World} {v : Value} (h : Nos w v) :
    Calls Try.prog 61 #[v] w fun e w' => e = .returned (.pointer none) ∧ w' = w := by
  have HM := Lib.hid (made14_no h)
  clear h
  go_enter Try.func61, Try.ntmps61
  go_wp2_with (go_at_call 66; refine HM.out.mono ?_; rintro e w' ⟨rfl, rfl⟩)
  go_ret
  exact ⟨rfl, rfl⟩
end Go.Proofs.Ytobddfpdijmgiaa
