/- Layer 14: slices.Clone of versions; the program's space: what it holds; small calls. -/
import Derived.Test.YtjkfgbmlhglnfaaSpL
import Derived.Test.YtjkfgbmlhglnfaaVcK
import Derived.Test.YtjkfgbmlhglnfaaSpJ
import Derived.Deep.CutRange
import Derived.Deep.DeepCutAuto
import Derived.WalkSpells
namespace Go.Proofs.Ytjkfgbmlhglnfaa
open Go.RowKit
set_option linter.unusedVariables false
set_option linter.unusedSimpArgs false
set_option maxRecDepth 100000

theorem wpList_app_bare {P : Program} {w : World} {ops : Array Oper} {rest : List Oper} {o : Oper} {a : Act} {Q : Exit → Act → World → Prop} (hgd : o.guard = none) (x y : Operand) (t : TypeId)
    (ho : o.op = .call { callee := .builtin .append, args := #[x, y], argTypes := #[t, t] })
    (e : TypeId) (z : Value) (size bytes : Nat) (ht : P.underlying t = some (.slice e)) (hi : (P.info? e).map (fun i => (i.zero, i.size, i.bytes)) = some (some z, size, bytes)) (hzs : z.cells.size = size) (hsz : 0 < size)
    (AO : Option Addr) (hx : a.eval x = .slice AO 0 0)
    (A : Option Addr) (m c : Nat) (news : List Value) (hy : a.eval y = .slice A m c) (hl : news.length = m * size) (hr : Rc w A news) (h1 : ∀ u ∈ news, u.oneCell' = true)
    (h63 : m ≤ maxLen) (hbytes : m * bytes ≤ 140737488355328)
    (h : ∀ A' c' w', Rc w' A' news → (m ≤ c' ∧ (0 < m → ∀ a, A' = some a → w.heap.size ≤ a.block)) → Turn (fun _ => False) w w' → wpList P ops Q rest (a.put o.dst (.slice A' m c')) w') : wpList P ops Q (o :: rest) a w := by
  refine wpList_plain hgd fun K' hK' => ?_
  cases hi' : P.info? e with
  | none => rw [hi'] at hi; cases hi
  | some i =>
    rw [hi'] at hi
    simp at hi
    obtain ⟨hz, hs, hb⟩ := hi
    obtain ⟨A', c', w', hrun, h2, hmc, h3⟩ := run_app_bare (P := P) w t o.type e i z size bytes ht hi' hz hs hb hzs hsz AO A m c news hl hr h1 h63 hbytes
    unfold Oper.wp execOp
    simp only [ho, resolve, invoke, builtin, Sem.run_bind, Sem.run_pure, Result.andThen_ok, List.map_toArray, List.map_cons, List.map_nil, hx, hy, hrun]
    exact hK' _ _ (h A' c' w' h2 hmc h3)
theorem clone14 (L : List Vn) (v : Value) (w : World) (h : Vr w v L) (hcv : Cv v) (hb : L.length ≤ 1000000000) :
    Calls Try.prog 120 #[v] w fun e w' => ∃ v', e = .returned v' ∧ Vr w' v' L ∧ Cw w.heap.size v' ∧ Turn (fun _ => False) w w' := by
  obtain ⟨A, c, rfl⟩ := h.len
  obtain ⟨n, hn⟩ : ∃ n, L.length = n := ⟨_, rfl⟩
  have HN := Lib.hid hn
  have hc := hcv _ _ _ rfl
  have HRC := Lib.hid h.rc
  rw [hn] at hc hb ⊢
  clear hcv
  have q22 : ∀ (w : World) (a : Option Addr) (n c n' c' : Nat), (binOp .eql 38 (.slice a n c) (.slice none n' c')).run Try.prog w = .ok (.bool a.isNone) w := fun w a n c n' c' => Lib.run_eql_slice_nil w _ _ a n c n' c' Try.underlying38
  cases A with
  | none =>
    have h0 : n = 0 := by
      rcases Nat.eq_zero_or_pos n with h0 | h0
      · exact h0
      · obtain ⟨b, o, e, _⟩ := HRC.out (by rw [flat_len vc_len]; omega)
        cases e
    subst h0
    have hL : L = [] := List.eq_nil_of_length_eq_zero hn
    subst hL
    clear hn h
    go_enter Try.func120, Try.ntmps120
    go_wp2_with fail
    go_ret
    exact ⟨_, rfl, ⟨none, 0, rfl, by simp, fun h => by simp at h⟩, fun A n c e => by (injection e with e1 e2 e3; exact ⟨by omega, fun h => by omega⟩), Turn.refl _ _⟩
  | some ad =>
    have HRC2 : Hid (Rc (w.alloc (.cells #[] 83)) (some ad) (L.flatMap vc)) := Lib.hid (HRC.out.still ((Turn.refl _ _).alloc _))
    clear hn h
    go_enter Try.func120, Try.ntmps120
    go_wp2_with (at_builtin; refine wpList_app_bare rfl _ _ 38 rfl 83 _ 3 32 Try.underlying38 info_vn rfl (by decide) _ rfl (some ad) n c (L.flatMap vc) rfl (by rw [flat_len vc_len, HN.out]) HRC2.out (vcs_one _) (by unfold maxLen; omega) (by omega) ?_; intro A9 c9 w9 hr9 hm9 ht9; have R9 := Lib.hid hr9; have C9 := Lib.hid hm9; have T9 := Lib.hid ht9; clear hr9 hm9 ht9)
    go_ret
    refine ⟨_, rfl, ?_, fun A n c e => by (injection e with e1 e2 e3; subst e1 e2 e3; exact ⟨C9.out.1, fun h a e => Nat.le_trans (by simp) (C9.out.2 h a e)⟩), ((Turn.refl _ _).alloc _).trans T9.out⟩
    have h9 := vr_of (c := c9) R9.out (by rw [HN.out]; omega)
    rw [HN.out] at h9
    exact h9
end Go.Proofs.Ytjkfgbmlhglnfaa
/- Layer 14: rows of items of the call's own; the document's with. (mkSpC.py) -/
namespace Go.Proofs.Ytjkfgbmlhglnfaa
open Go.RowKit
set_option linter.unusedVariables false
set_option linter.unusedSimpArgs false
set_option maxRecDepth 100000

theorem info_it : (Try.prog.info? 40).map (fun i => (i.zero, i.size, i.bytes)) = some (some (.agg #[.string ByteArray.empty, .slice none 0 0]), 2, 40) := by kernel_rfl
theorem Vr.one {w : World} {v : Value} {L : List Vn} (h : Vr w v L) : v.oneCell' = true := by obtain ⟨A, c, e⟩ := h.len; rw [e]; rfl
theorem Iw.one {w : World} {M : List (Itm × Value)} (h : Iw w M) : ∀ u ∈ M.flatMap ic, u.oneCell' = true := fun u hu => by
  obtain ⟨p, hp, hx⟩ := List.mem_flatMap.1 hu
  simp [ic] at hx
  rcases hx with rfl | rfl
  · rfl
  · exact (h p hp).one
/-- A slice's block. -/
def vb : Value → Option Nat
  | .slice (some ad) _ _ => some ad.block
  | _ => none
theorem Vr.at_ {w : World} {v : Value} {L : List Vn} (h : Vr w v L) (hp : 0 < L.length) : ∃ b, vb v = some b ∧ b < w.heap.size := by
  obtain ⟨A, c, rfl, hl, hr⟩ := h
  obtain ⟨b, o, rfl, hb, _⟩ := hr hp
  exact ⟨b, rfl, hb⟩
theorem Vr.turn {S : Nat → Prop} {w w' : World} {v : Value} {L : List Vn} (h : Vr w v L) (ht : Turn S w w') (hf : 0 < L.length → ∀ b, vb v = some b → ¬ S b) : Vr w' v L := by
  obtain ⟨A, c, rfl, hl, hr⟩ := h
  refine ⟨A, c, rfl, hl, fun hp => ?_⟩
  obtain ⟨b, o, rfl, hb, hc⟩ := hr hp
  have hk : ∀ j, w'.cell? ⟨b, j, none⟩ = w.cell? ⟨b, j, none⟩ := fun j => World.cell?_of_block (w := w) (a := ⟨b, j, none⟩) (ht.block b hb (hf hp b rfl))
  exact ⟨b, o, rfl, Nat.lt_of_lt_of_le hb ht.size, fun j x hj => by rw [hk, hk, hk]; exact hc j x hj⟩
/-- Versions that lie apart from a set of blocks. -/
def VrF (S : Nat → Prop) (w : World) (v : Value) (L : List Vn) : Prop := Vr w v L ∧ (0 < L.length → ∀ b, vb v = some b → ¬ S b)
/-- A row of items of the call's own; their versions lie apart from it. -/
def Io (B : Nat) (w : World) (v : Value) (M : List (Itm × Value)) : Prop := w.ownsRow B 40 2 v M.length (M.flatMap ic) ∧ ∀ p ∈ M, VrF (fun k => v.ownBlock = some k) w p.2 p.1.vs
theorem own_still_ {B t s n : Nat} {w w' : World} {v : Value} {xs : List Value} (h : w.ownsRow B t s v n xs) (ht : Turn (fun _ => False) w w') : w'.ownsRow B t s v n xs := by
  obtain ⟨hl, ⟨e, h0⟩ | ⟨g, cap, cur, e, hB, hh, hn, hc, hs, htk⟩⟩ := h
  · exact ⟨hl, .inl ⟨e, h0⟩⟩
  · exact ⟨hl, .inr ⟨g, cap, cur, e, hB, (ht.block g (Array.getElem?_eq_some_iff.1 hh).1 (fun h => h)).trans hh, hn, hc, hs, htk⟩⟩
theorem Io.still {B : Nat} {w w' : World} {v : Value} {M : List (Itm × Value)} (h : Io B w v M) (ht : Turn (fun _ => False) w w') : Io B w' v M := ⟨own_still_ h.1 ht, fun p hp => ⟨(h.2 p hp).1.still ht, (h.2 p hp).2⟩⟩
theorem Io.ix {B : Nat} {w : World} {v : Value} {M : List (Itm × Value)} (h : Io B w v M) (hl : M.length ≤ 9223372036854775807) : Ix w v M := by
  obtain ⟨A, c, rfl⟩ := own_slice_ h.1
  exact ⟨A, c, rfl, hl, rc_own h.1, fun p hp => (h.2 p hp).1⟩
theorem io_nil (B : Nat) (w : World) : Io B w (.slice none 0 0) [] := ⟨⟨rfl, .inl ⟨rfl, rfl⟩⟩, fun p hp => by cases hp⟩
/-- What lay ahead of a row's base lies apart from the row. -/
theorem Vr.apart {B t s n : Nat} {w0 w : World} {v u : Value} {xs : List Value} {L : List Vn} (h0 : Vr w0 u L) (h : Vr w u L) (hB : w0.heap.size ≤ B) (ho : w.ownsRow B t s v n xs) : VrF (fun k => v.ownBlock = some k) w u L :=
  ⟨h, fun hp b hb hk => by
    obtain ⟨b', e1, h1⟩ := h0.at_ hp
    rw [hb] at e1
    cases e1
    have := (own_ge9 ho b hk).1
    omega⟩
theorem wpList_app1i {w : World} {ops : Array Oper} {rest : List Oper} {o : Oper} {a : Act} {Q : Exit → Act → World → Prop} (hgd : o.guard = none) (x y : Operand)
    (ho : o.op = .call { callee := .builtin .append, args := #[x, y], argTypes := #[22, 22] })
    (B : Nat) (v : Value) (M : List (Itm × Value)) (n q : Nat) (z : Itm) (u : Value) (hx : a.eval x = v) (hn : M.length = n) (hown : Io B w v M) (hy : a.eval y = .slice (some ⟨q, 0, none⟩) 1 1) (hq : Blk w q 40 [.string z.k, u]) (hu : VrF (fun k => v.ownBlock = some k) w u z.vs) (hb : n ≤ 100000000) (hB : B ≤ w.heap.size)
    (h : ∀ A' c' w', Io B w' (.slice A' (n + 1) c') (M ++ [(z, u)]) → Turn (fun k => v.ownBlock = some k) w w' → wpList Try.prog ops Q rest (a.put o.dst (.slice A' (n + 1) c')) w') : wpList Try.prog ops Q (o :: rest) a w := by
  subst hn
  refine wpList_app_rc hgd x y 22 ho B 40 _ 2 40 Try.underlying22 info_it rfl (by decide) v M.length (M.flatMap ic) hx hown.1 (some ⟨q, 0, none⟩) 1 1 [.string z.k, u] hy rfl hq.rc (fun s hs => by
    simp at hs
    rcases hs with rfl | rfl
    · rfl
    · exact hu.1.one) (by unfold maxLen; omega) (by omega) hB ?_
  intro A' c' w' h1 h2 h3
  refine h A' c' w' ⟨?_, fun p hp => ?_⟩ h2
  · rw [List.length_append, List.flatMap_append, List.length_singleton, List.flatMap_singleton]
    exact h1
  · have key : VrF (fun k => v.ownBlock = some k) w p.2 p.1.vs := by
      rcases List.mem_append.1 hp with hp | hp
      · exact hown.2 p hp
      · simp at hp; subst hp; exact hu
    refine ⟨key.1.turn h2 key.2, fun hp b hb hk => ?_⟩
    rcases h3 with h3 | h3
    · rw [h3] at hk; exact key.2 hp b hb hk
    · obtain ⟨b', e1, h4⟩ := key.1.at_ hp
      rw [hb] at e1
      cases e1
      have hk2 : (Value.slice A' (M.length + 1) c').ownBlock = some b := hk
      rw [h3] at hk2
      cases hk2
      omega
def wst (z : Itm × Value) (st : List (Itm × Value) × Bool) (x : Itm × Value) : List (Itm × Value) × Bool :=
  if (x.1.k.toList == z.1.k.toList) then (if !st.2 && !lt14 x.1.k z.1.k then (st.1 ++ [z], true) else st)
  else ((if !st.2 && !lt14 x.1.k z.1.k then st.1 ++ [z] else st.1) ++ [x], if !st.2 && !lt14 x.1.k z.1.k then true else st.2)
def wth (M : List (Itm × Value)) (z : Itm × Value) : List (Itm × Value) :=
  if (M.foldl (wst z) ([], z.1.vs.isEmpty)).2 then (M.foldl (wst z) ([], z.1.vs.isEmpty)).1 else (M.foldl (wst z) ([], z.1.vs.isEmpty)).1 ++ [z]
end Go.Proofs.Ytjkfgbmlhglnfaa
/- Layer 14: the program's space: what it holds; small calls; none. -/
namespace Go.Proofs.Ytjkfgbmlhglnfaa
open Go.RowKit
set_option linter.unusedVariables false
set_option linter.unusedSimpArgs false
set_option maxRecDepth 100000

def look (M : List (Itm × Value)) (k : List UInt8) : Option Value := (M.find? (fun p => p.1.k.toList == k)).map (·.2)
def keysM (M : List (Itm × Value)) : List ByteArray := M.map (fun p => p.1.k)
/-- The blocks of a space. -/
def Sw (q : Nat) (vk : Value) (g : Nat) (k : Nat) : Prop := k = q ∨ k = g ∨ vk.ownBlock = some k
structure Sp (w : World) (q : Nat) (vk : Value) (g : Nat) (M : List (Itm × Value)) (last mark : Int) : Prop where
  box : Blk w q 126 [vk, .map (some g), .int .i64 last, .int .i64 mark]
  keys : Kr w vk (keysM M)
  map : Mp w g M.length (look M)
  vers : ∀ p ∈ M, VrF (Sw q vk g) w p.2 p.1.vs ∧ Cv p.2 ∧ p.1.vs ≠ []
  ord : risK (keysM M)
  sep : q ≠ g ∧ ∀ b, vk.ownBlock = some b → b ≠ q ∧ b ≠ g
theorem VrF.turn {S T : Nat → Prop} {w w' : World} {u : Value} {L : List Vn} (h : VrF S w u L) (ht : Turn T w w') (hs : ∀ k, k < w.heap.size → T k → S k) : VrF S w' u L := by
  refine ⟨?_, h.2⟩
  refine h.1.turn ht (fun hp b hb hT => ?_)
  obtain ⟨b', e, hl⟩ := h.1.at_ hp
  rw [hb] at e
  cases e
  exact h.2 hp b hb (hs b hl hT)
theorem Sp.turn {S : Nat → Prop} {w w' : World} {q g : Nat} {vk : Value} {M : List (Itm × Value)} {last mark : Int} (h : Sp w q vk g M last mark) (ht : Turn S w w') (hq : ¬ S q) (hg : ¬ S g) (hk : ∀ k, vk.ownBlock = some k → ¬ S k)
    (hv : ∀ p ∈ M, 0 < p.1.vs.length → ∀ b, vb p.2 = some b → ¬ S b) : Sp w' q vk g M last mark where
  box := h.box.turn ht hq
  keys := h.keys.turn ht hk
  map := h.map.turn ht hg
  vers p hp := ⟨⟨(h.vers p hp).1.1.turn ht (hv p hp), (h.vers p hp).1.2⟩, (h.vers p hp).2⟩
  ord := h.ord
  sep := h.sep
theorem Sp.still {w w' : World} {q g : Nat} {vk : Value} {M : List (Itm × Value)} {last mark : Int} (h : Sp w q vk g M last mark) (ht : Turn (fun _ => False) w w') : Sp w' q vk g M last mark :=
  h.turn ht (fun h => h) (fun h => h) (fun _ _ h => h) (fun _ _ _ _ _ h => h)
theorem Sp.below {w : World} {q g : Nat} {vk : Value} {M : List (Itm × Value)} {last mark : Int} (h : Sp w q vk g M last mark) : ∀ k, Sw q vk g k → k < w.heap.size := by
  rintro k (rfl | rfl | hk)
  · exact h.box.lt
  · exact h.map.lt
  · exact h.keys.lt k hk
/-- No space, or one that nothing made. -/
def Nos (w : World) (v : Value) : Prop := v = .pointer none ∨ ∃ q vk a b, v = .pointer (some ⟨q, 0, none⟩) ∧ Blk w q 126 [vk, .map none, a, b]
theorem Nos.still {w w' : World} {v : Value} (h : Nos w v) (ht : Turn (fun _ => False) w w') : Nos w' v := by
  rcases h with rfl | ⟨q, vk, a, b, rfl, h⟩
  · exact .inl rfl
  · exact .inr ⟨q, vk, a, b, rfl, h.turn ht (fun h => h)⟩
theorem neq_map14 (w : World) (m : Option Nat) : (binOp .neq 124 (.map m) (.map none)).run Try.prog w = .ok (.bool (!m.isNone)) w := run_neq_map_nil w _ _ _ m Try.underlying124
theorem made14 {w : World} {q g : Nat} {vk : Value} {M : List (Itm × Value)} {last mark : Int} (h : Sp w q vk g M last mark) :
    Calls Try.prog 80 #[.pointer (some ⟨q, 0, none⟩)] w fun e w' => e = .returned (.bool true) ∧ w' = w := by
  have c1 := h.box.cell 1
  have e1 := neq_map14
  simp only [List.getElem?_cons_succ, List.getElem?_cons_zero] at c1
  clear h
  go_enter Try.func80, Try.ntmps80
  go_wp2
  go_ret
  exact ⟨rfl, rfl⟩
theorem made14_no {w : World} {v : Value} (h : Nos w v) :
    Calls Try.prog 80 #[v] w fun e w' => e = .returned (.bool false) ∧ w' = w := by
  have e1 := neq_map14
  rcases h with rfl | ⟨q, vk, a, b, rfl, h⟩
  · go_enter Try.func80, Try.ntmps80
    go_wp2
    go_ret
    exact ⟨rfl, rfl⟩
  · have c1 := h.cell 1
    simp only [List.getElem?_cons_succ, List.getElem?_cons_zero] at c1
    clear h
    go_enter Try.func80, Try.ntmps80
    go_wp2
    go_ret
    exact ⟨rfl, rfl⟩
theorem apply14_no {w : World} {v : Value} (t : Int) (l : Value) (h : Nos w v) :
    Calls Try.prog 34 #[v, .int .i64 t, l] w fun e w' => e = .returned (.int .i64 1) ∧ w' = w := by
  have HM := Lib.hid (made14_no h)
  clear h
  go_enter Try.func34, Try.ntmps34
  go_wp2_with (go_at_call 80; refine HM.out.mono ?_; rintro e w' ⟨rfl, rfl⟩)
  go_ret
  exact ⟨rfl, rfl⟩
end Go.Proofs.Ytjkfgbmlhglnfaa
