/- Layer 15: what reading a record finds, plain. -/
import Derived.Test.YtaebhbdmmnpgeaaBtH

namespace Go.Proofs.Ytaebhbdmmnpgeaa
open Go.RowKit Go.Shelf
set_option linter.unusedVariables false
set_option linter.unusedSimpArgs false
set_option maxRecDepth 100000
attribute [local go_sem] Oper.semAt_some

theorem dropS {α : Type} {L : List α} {i : Nat} {x : α} (h : L[i]? = some x) : L.drop i = x :: L.drop (i + 1) := by
  obtain ⟨h1, h2⟩ := List.getElem?_eq_some_iff.1 h
  rw [List.drop_eq_getElem_cons h1, h2]
theorem len_bs (S : ByteArray) : S.data.toList.length = S.size := by simp
theorem len_bs2 (l : List UInt8) : (⟨l.toArray⟩ : ByteArray).size = l.length := by simp [ByteArray.size]
theorem rd_fld (k : Nat) (hk : k ≤ 8) (x : Int) (h0 : 0 ≤ x) (hx : x < 256 ^ k) (L P R : List UInt8) (n : Nat) (hL : L = P ++ fld k x ++ R) (hn : P.length = n) : rw_ k L n 0 = (x.toNat, n + k, 0) := by
  have h := num_fld k hk x L P R n hL hn
  have hlen : L.length = n + k + R.length := by rw [hL, ← hn]; simp only [List.length_append, len_fld]
  unfold rw_
  rw [if_pos rfl, if_neg (by omega)]
  rw [Int.emod_eq_of_lt h0 hx] at h
  have h2 : num k L n = x.toNat := by omega
  rw [h2]
theorem rd_byte (b : UInt8) (L P R : List UInt8) (n : Nat) (hL : L = P ++ b :: R) (hn : P.length = n) : rw_ 1 L n 0 = (b.toNat, n + 1, 0) := by
  have hlen : L.length = n + 1 + R.length := by rw [hL, ← hn]; simp only [List.length_append, List.length_cons]; omega
  unfold rw_
  rw [if_pos rfl, if_neg (by omega)]
  have h2 : num 1 L n = b.toNat := by
    unfold num
    rw [hL, ← hn, List.drop_left]
    simp [val]
  rw [h2]
theorem fld1_inj {a b : Int} (ha : 0 ≤ a) (ha2 : a < 256) (hb : 0 ≤ b) (hb2 : b < 256) (h : fld 1 a = fld 1 b) : a = b := by
  have h2 := fld_same 1 a b ha (by simpa using ha2) hb (by simpa using hb2)
  rw [h] at h2
  simpa using h2.symm
theorem sh15_inj {k k' : ByteArray} {R R' : List UInt8} (hk : k.size ≤ 255) (hk' : k'.size ≤ 255) (h : sh15 k ++ R = sh15 k' ++ R') : k = k' ∧ R = R' := by
  unfold sh15 at h
  rw [List.append_assoc, List.append_assoc] at h
  obtain ⟨h1, h2⟩ := List.append_inj h (by simp only [len_fld])
  have hs := fld1_inj (by omega) (by omega) (by omega) (by omega) h1
  have hs2 : k.size = k'.size := by omega
  obtain ⟨h3, h4⟩ := List.append_inj h2 (by rw [len_bs, len_bs, hs2])
  exact ⟨by rw [ba_self k, ba_self k', h3], h4⟩
theorem chB_inj {x y : Cg} {R R' : List UInt8} (hx : x.k.size ≤ 255 ∧ x.v.size ≤ 255) (hy : y.k.size ≤ 255 ∧ y.v.size ≤ 255) (h : chB x ++ R = chB y ++ R') : x = y ∧ R = R' := by
  unfold chB at h
  simp only [List.append_assoc] at h
  obtain ⟨h1, h2⟩ := List.append_inj h (by simp only [len_fld])
  obtain ⟨h3, h4⟩ := sh15_inj hx.1 hy.1 h2
  obtain ⟨h5, h6⟩ := sh15_inj hx.2 hy.2 h4
  obtain ⟨xk, xv, xd⟩ := x
  obtain ⟨yk, yv, yd⟩ := y
  simp only at h1 h3 h5
  subst h3 h5
  refine ⟨?_, h6⟩
  have := fld1_inj (by split <;> decide) (by split <;> decide) (by split <;> decide) (by split <;> decide) h1
  cases xd <;> cases yd
  · rfl
  · cases this
  · cases this
  · rfl
theorem flat_inj : ∀ (C D : List Cg), (∀ x ∈ C, x.k.size ≤ 255 ∧ x.v.size ≤ 255) → (∀ x ∈ D, x.k.size ≤ 255 ∧ x.v.size ≤ 255) → C.length = D.length → C.flatMap chB = D.flatMap chB → C = D
  | [], [], _, _, _, _ => rfl
  | x :: C, y :: D, hx, hy, hl, h => by
    simp only [List.flatMap_cons] at h
    obtain ⟨rfl, h2⟩ := chB_inj (hx x (by simp)) (hy y (by simp)) h
    rw [flat_inj C D (fun z hz => hx z (by simp [hz])) (fun z hz => hy z (by simp [hz])) (by simpa using hl) h2]
/-- The bytes are the record of a right batch. -/
def On15 (L : List UInt8) (t : Int) (C : List Cg) : Prop := rg15 t C = true ∧ rec15 t C = L
theorem On15.small {L : List UInt8} {t : Int} {C : List Cg} (h : On15 L t C) : C.length ≤ 64 ∧ (∀ x ∈ C, x.k.size ≤ 255 ∧ x.v.size ≤ 255) ∧ 1 ≤ t ∧ t ≤ 1152921504606846976 := by
  obtain ⟨h1, h2⟩ := rg_small h.1
  exact ⟨h1, fun x hx => ⟨by have := h2 x hx; omega, by have := h2 x hx; omega⟩, (rg_iff.1 h.1).1.1, (rg_iff.1 h.1).1.2.1⟩
theorem On15.inj {L : List UInt8} {t t' : Int} {C C' : List Cg} (h : On15 L t C) (h' : On15 L t' C') : t = t' ∧ C = C' := by
  have s := h.small
  have s' := h'.small
  have e : rec15 t C = rec15 t' C' := by rw [h.2, h'.2]
  unfold rec15 at e
  simp only [List.append_assoc] at e
  obtain ⟨_, e⟩ := List.append_inj e (by simp only [len_fld])
  obtain ⟨e1, e⟩ := List.append_inj e (by simp only [len_fld])
  obtain ⟨e2, e3⟩ := List.append_inj e (by simp only [len_fld])
  have := fld1_inj (by omega) (by omega) (by omega) (by omega) e2
  have h8 := fld_same 8 t t' (by omega) (by have := s.2.2.2; simp; omega) (by omega) (by have := s'.2.2.2; simp; omega)
  rw [e1] at h8
  exact ⟨by simpa using h8.symm, flat_inj C C' s.2.1 s'.2.1 (by omega) e3⟩
theorem on_head {L : List UInt8} {t : Int} {C : List Cg} (h : On15 L t C) : rw_ 1 L 0 0 = (66, 1, 0) ∧ rw_ 8 L 1 0 = (t.toNat, 9, 0) ∧ rw_ 1 L 9 0 = (C.length, 10, 0) := by
  have s := h.small
  have e := h.2
  unfold rec15 at e
  refine ⟨rd_fld 1 (by decide) 66 (by decide) (by decide) L [] (fld 8 t ++ fld 1 (C.length : Int) ++ C.flatMap chB) 0 (by rw [← e]; simp only [List.nil_append, List.append_assoc]) rfl, rd_fld 8 (by decide) t (by omega) (by have := s.2.2.2; simp; omega) L (fld 1 66) (fld 1 (C.length : Int) ++ C.flatMap chB) 1 (by rw [← e]; simp only [List.append_assoc]) (len_fld _ _), ?_⟩
  have := rd_fld 1 (by decide) (C.length : Int) (by omega) (by simp; omega) L (fld 1 66 ++ fld 8 t) (C.flatMap chB) 9 (by rw [← e]) (by simp [len_fld])
  rw [Int.toNat_natCast] at this
  exact this
theorem on_mid {L : List UInt8} {t : Int} {C D : List Cg} (h : On15 L t C) (hD : D = C.take D.length) (hl : D.length < C.length) : ∃ x R, C[D.length]? = some x ∧ C.take (D.length + 1) = D ++ [x] ∧ L = (((fld 1 66 ++ fld 8 t) ++ fld 1 (C.length : Int)) ++ D.flatMap chB) ++ chB x ++ R ∧ (((fld 1 66 ++ fld 8 t) ++ fld 1 (C.length : Int)) ++ D.flatMap chB).length = 10 + (D.flatMap chB).length := by
  obtain ⟨x, hx⟩ : ∃ x, C[D.length]? = some x := ⟨_, List.getElem?_eq_getElem hl⟩
  have hc : C = D ++ x :: C.drop (D.length + 1) := by
    rw [← dropS hx]
    conv => rhs; lhs; rw [hD]
    exact (List.take_append_drop _ _).symm
  have ht : C.take (D.length + 1) = D ++ [x] := by
    rw [List.take_add_one, hx, ← hD]; rfl
  refine ⟨x, (C.drop (D.length + 1)).flatMap chB, hx, ht, ?_, by simp only [List.length_append, len_fld]⟩
  have e := h.2
  unfold rec15 at e
  rw [← e]
  have hf : C.flatMap chB = D.flatMap chB ++ (chB x ++ (C.drop (D.length + 1)).flatMap chB) := by
    conv => lhs; rw [hc]
    simp only [List.flatMap_append, List.flatMap_cons]
  rw [hf]
  simp only [List.append_assoc]
/-- How a text is read that stands behind its length. -/
def Shr (L : List UInt8) (n er : Nat) (T : ByteArray) (n' er' : Nat) : Prop := ∀ (P : List UInt8) (k : ByteArray) (R : List UInt8), er = 0 → k.size ≤ 255 → L = P ++ sh15 k ++ R → P.length = n → T = k ∧ n' = n + 1 + k.size ∧ er' = 0
/-- Where the program's reading stands ahead of the next change. -/
def Nx (L : List UInt8) (tm : Int) (D : List Cg) (left n er : Nat) : Prop := ∀ t C, On15 L t C → tm = t ∧ D = C.take D.length ∧ left + D.length = C.length ∧ n = 10 + (D.flatMap chB).length ∧ er = 0
theorem nx_start {L : List UInt8} {n1 e1 v8 n2 e2 lv n3 e3 b : Nat} (h1 : rw_ 1 L 0 0 = (b, n1, e1)) (h2 : rw_ 8 L n1 e1 = (v8, n2, e2)) (h3 : rw_ 1 L n2 e2 = (lv, n3, e3)) : Nx L (wrap64 (v8 : Int)) [] lv n3 e3 := by
  intro t C h
  obtain ⟨g1, g2, g3⟩ := on_head h
  have s := h.small
  rw [g1] at h1
  injection h1 with _ h1
  injection h1 with ha hb
  subst ha hb
  rw [g2] at h2
  injection h2 with hv h2
  injection h2 with ha hb
  subst ha hb hv
  rw [g3] at h3
  injection h3 with hv h3
  injection h3 with ha hb
  subst ha hb hv
  exact ⟨by unfold wrap64; omega, rfl, rfl, rfl, rfl⟩
theorem nx_step {L : List UInt8} {tm : Int} {D : List Cg} {left n er dv n1 e1 n2 e2 n3 e3 : Nat} {T1 T2 : ByteArray} {dd : Bool} (h : Nx L tm D (left + 1) n er) (h1 : rw_ 1 L n er = (dv, n1, e1)) (hd : dd = (((dv : Int)) == 1)) (hs1 : Shr L n1 e1 T1 n2 e2) (hs2 : Shr L n2 e2 T2 n3 e3) : Nx L tm (D ++ [⟨T1, T2, dd⟩]) left n3 e3 := by
  intro t C hC
  obtain ⟨ht, hD, hl, hn, he⟩ := h t C hC
  obtain ⟨x, R, hx, htk, hL, hlen⟩ := on_mid hC hD (by omega)
  have hsm := hC.small.2.1 x (List.mem_of_getElem? hx)
  subst he
  generalize hP : ((fld 1 66 ++ fld 8 t) ++ fld 1 (C.length : Int)) ++ D.flatMap chB = P at hL hlen
  rw [← hn] at hlen
  unfold chB at hL
  have g1 := rd_fld 1 (by decide) (if x.d then 1 else 0) (by split <;> decide) (by split <;> decide) L P (sh15 x.k ++ sh15 x.v ++ R) n (by rw [hL]; simp only [List.append_assoc]) hlen
  rw [g1] at h1
  injection h1 with hv h1
  injection h1 with ha hb
  subst ha hb
  obtain ⟨rfl, rfl, rfl⟩ := hs1 (P ++ fld 1 (if x.d then 1 else 0)) x.k (sh15 x.v ++ R) rfl hsm.1 (by rw [hL]; simp only [List.append_assoc]) (by rw [List.length_append, len_fld, hlen])
  obtain ⟨rfl, rfl, rfl⟩ := hs2 (P ++ fld 1 (if x.d then 1 else 0) ++ sh15 x.k) x.v R rfl hsm.2 (by rw [hL]; simp only [List.append_assoc]) (by rw [List.length_append, List.length_append, len_fld, hlen, len_sh15]; omega)
  have hdd : dd = x.d := by
    rw [hd, ← hv]
    cases x.d <;> rfl
  have hxx : (⟨x.k, x.v, dd⟩ : Cg) = x := by rw [hdd]
  rw [hxx]
  refine ⟨ht, by rw [List.length_append, List.length_singleton, htk], by rw [List.length_append, List.length_singleton]; omega, ?_, rfl⟩
  rw [List.flatMap_append, List.length_append, List.flatMap_singleton, len_chB, hn]
  omega
theorem nx_end {L : List UInt8} {tm : Int} {D : List Cg} {n er : Nat} (h : Nx L tm D 0 n er) : ∀ t C, On15 L t C → tm = t ∧ D = C := by
  intro t C hC
  obtain ⟨h1, h2, h3, _⟩ := h t C hC
  refine ⟨h1, ?_⟩
  rw [h2]
  exact List.take_of_length_le (by omega)
/-- What Read answers. -/
def Res15 (S : ByteArray) (t : Int) (D : List Cg) (m e : Int) : Prop :=
  (e = 0 ∧ m = 0 ∧ by15 t D = (S, 0)) ∨ (e = 0 ∧ t = 0 ∧ D = [] ∧ mok15 m = true ∧ mrk15 m = S.data.toList) ∨ (e = 4 ∧ t = 0 ∧ D = [] ∧ m = 0 ∧ (∀ t C, by15 t C ≠ (S, 0)) ∧ ∀ m, mok15 m = true → mrk15 m ≠ S.data.toList)
theorem by_on {S : ByteArray} {t : Int} {C : List Cg} (h : by15 t C = (S, 0)) : On15 S.data.toList t C ∧ S.size ≤ 16384 := by
  unfold by15 at h
  split at h
  · rename_i hr
    split at h
    · rename_i hl
      injection h with h1 _
      rw [← h1]
      exact ⟨⟨hr, by simp⟩, by rw [len_bs2]; exact hl⟩
    · injection h with _ h2; cases h2
  · injection h with _ h2; cases h2
theorem on_by {S : ByteArray} {t : Int} {C : List Cg} (h : On15 S.data.toList t C) (hs : S.size ≤ 16384) : by15 t C = (S, 0) := by
  unfold by15
  rw [if_pos h.1, h.2, if_pos (by rw [len_bs]; exact hs)]
theorem mrk_head (m : Int) (L : List UInt8) (h : mrk15 m = L) : rw_ 1 L 0 0 = (77, 1, 0) := by rw [← h]; exact mrk_u8 m
theorem on_not_mrk {L : List UInt8} {t : Int} {C : List Cg} (h : On15 L t C) (m : Int) : mrk15 m ≠ L := by
  intro e
  have h1 := (on_head h).1
  rw [mrk_head m L e] at h1
  injection h1 with h2 _
  cases h2
theorem mrk_inj {m m' : Int} (h : mok15 m = true) (h' : mok15 m' = true) (e : mrk15 m = mrk15 m') : m = m' := by
  unfold mok15 at h h'
  simp at h h'
  unfold mrk15 at e
  obtain ⟨_, e⟩ := List.append_inj e (by simp only [len_fld])
  have h8 := fld_same 8 m m' (by omega) (by simp; omega) (by omega) (by simp; omega)
  rw [e] at h8
  simpa using h8.symm
theorem Res15.inj {S : ByteArray} {t t' : Int} {D D' : List Cg} {m m' e e' : Int} (h : Res15 S t D m e) (h' : Res15 S t' D' m' e') : t = t' ∧ D = D' ∧ m = m' ∧ e = e' := by
  rcases h with ⟨rfl, rfl, h⟩ | ⟨rfl, rfl, rfl, h, g⟩ | ⟨rfl, rfl, rfl, rfl, h, g⟩
  · rcases h' with ⟨rfl, rfl, h'⟩ | ⟨rfl, rfl, rfl, h', g'⟩ | ⟨rfl, rfl, rfl, rfl, h', g'⟩
    · obtain ⟨e1, e2⟩ := (by_on h).1.inj (by_on h').1
      exact ⟨e1, e2, rfl, rfl⟩
    · exact absurd g' (on_not_mrk (by_on h).1 _)
    · exact absurd h (h' _ _)
  · rcases h' with ⟨rfl, rfl, h'⟩ | ⟨rfl, rfl, rfl, h', g'⟩ | ⟨rfl, rfl, rfl, rfl, h', g'⟩
    · exact absurd g (on_not_mrk (by_on h').1 _)
    · exact ⟨rfl, rfl, mrk_inj h h' (by rw [g, g']), rfl⟩
    · exact absurd g (g' _ h)
  · rcases h' with ⟨rfl, rfl, h'⟩ | ⟨rfl, rfl, rfl, h', g'⟩ | ⟨rfl, rfl, rfl, rfl, h', g'⟩
    · exact absurd h' (h _ _)
    · exact absurd g' (g _ h')
    · exact ⟨rfl, rfl, rfl, rfl⟩
theorem wpList_conv_slG {w : World} {ops : Array Oper} {rest : List Oper} {o : Oper} {a : Act} {Q : Exit → Act → World → Prop} (hw : Region.wanted o (yielded ops a.tmps) = true) (x : Operand) (ho : o.op = .convert 9 95 x) (s : ByteArray) (hx : a.eval x = .string s) (hs : s.size ≤ 140737488355000)
    (h : ∀ A c w', Sl w' w'.heap.size (.slice A s.size c) s.data.toList → Turn (fun _ => False) w w' → wpList Try.prog ops Q rest (a.put o.dst (.slice A s.size c)) w') : wpList Try.prog ops Q (o :: rest) a w :=
  wpList_step fun K hK => by
    rw [if_pos hw]
    have hr := run_bytes_of_string (P := Try.prog) w 9 95 5 s Try.underlying9 Try.underlying95 Try.underlying5
    unfold Oper.wp execOp
    simp only [ho, hx, Sem.run_bind, hr, Result.andThen_ok]
    exact hK _ _ (h _ _ _ (sl_of_conv w s _ _ (grownCap_ge _ _ _ _) (grownCap_le_maxLen _ _ _ _ (by unfold maxLen; omega))) ((Turn.refl _ _).drew.alloc _))
theorem newR_G (v : Value) (l : List UInt8) (w : World) (h : Sl w w.heap.size v l) (hl : l.length ≤ 140737488355000) :
    Calls Try.prog 45 #[v] w fun e w' => ∃ p, e = .returned (.pointer (some ⟨p, 0, none⟩)) ∧ Rdr w' p l 0 0 ∧ w.heap.size ≤ p ∧ Turn (fun _ => False) w w' :=
  (newReader_any _ v l w h (Nat.le_refl _) hl).mono fun e w' ⟨p, h1, h2, h3, h4⟩ => ⟨p, h1, h2, h3, Turn.of_below h4 (fun k h1 h2 => by omega)⟩
end Go.Proofs.Ytaebhbdmmnpgeaa
/- Layer 15: the program's Read. -/
namespace Go.Proofs.Ytaebhbdmmnpgeaa
open Go.RowKit Go.Shelf
set_option linter.unusedVariables false
set_option linter.unusedSimpArgs false
set_option maxRecDepth 100000
attribute [local go_sem] Oper.semAt_some

theorem Rdr.tn15 {S : Nat → Prop} {w w' : World} {p at_ er : Nat} {l : List UInt8} (h : Rdr w p l at_ er) (ht : Turn S w w') (hq : ∀ k, S k → p < k) : Rdr w' p l at_ er := by
  obtain ⟨A, cap, h1, h2, h3, h4⟩ := h
  have hlt := h2.lt
  exact ⟨A, cap, h1, h2.turn ht (fun e => by have := hq _ e; omega), h3.below (ht.below (Nat.le_of_lt hlt) (fun k hk => by have := hq _ hk; omega)), h4⟩
theorem rw1_le {L : List UInt8} {n er v n' er' : Nat} (h : rw_ 1 L n er = (v, n', er')) : v ≤ 255 := by
  have hl := num_lt 1 L n
  simp only [Nat.reducePow] at hl
  unfold rw_ at h
  split at h
  · split at h <;> (injection h with e1 _; omega)
  · injection h with e1 _; omega
theorem made_same15 (k m : Nat) (v : Value) (hk : 0 < k) : madeCells (List.replicate k v).toArray m = (List.replicate m v).toArray := by
  unfold madeCells
  apply Array.ext
  · simp
  · intro i h3 h4
    have : i % k < k := Nat.mod_lt _ hk
    simp [this]
theorem make_nz15 (n : Nat) (h1 : n ≤ 1000000) (w : World) : (Instr.makeSlice 95 (.int .i64 n) (.int .i64 n)).run Try.prog w = .ok (.slice (some ⟨w.heap.size, 0, none⟩) n n) (w.alloc (.cells (bv (List.replicate n 0)).toArray 5)) := by
  obtain ⟨i, hi, hz, hs, hb⟩ := info_parts Try.info5
  have := run_makeSlice (P := Try.prog) (w := w) 95 5 i _ Try.underlying95 hi hz .i64 .i64 n n (Int.natCast_nonneg _) (Int.le_refl _) (by rw [hs]; simp; omega) (by rw [hb]; omega) (by omega)
  rw [this, hs, Int.toNat_natCast, Nat.mul_one, show (Value.int .u8 0).cells = (List.replicate 1 (Value.int .u8 0)).toArray from rfl, made_same15 1 _ _ (by decide)]
  simp [bv]
  rfl
theorem blk_str15 (n : Nat) (l : List UInt8) (hl : l.length = n) (w : World) (g : Nat) (h : Blk w g 5 (bv l)) : (convert 95 9 (.slice (some ⟨g, 0, none⟩) n n)).run Try.prog w = .ok (.string ⟨l.toArray⟩) w := by
  subst hl
  exact run_str w 95 9 5 (some ⟨g, 0, none⟩) l.length l Try.underlying95 Try.underlying5 Try.underlying9 (fun _ => ⟨_, rfl, fun j c hj => by
    have := h.cell j
    rw [show (bv l)[j]? = some (u8v c) from by unfold bv; rw [List.getElem?_map, hj]; rfl] at this
    rw [Addr.add_mid, Nat.zero_add]
    exact this⟩)
/-- What has been read of a text, j bytes. -/
def Shk (L : List UInt8) (n er v : Nat) (Bs : List UInt8) (j nj ej : Nat) : Prop := ∀ (P : List UInt8) (k : ByteArray) (R : List UInt8), er = 0 → k.size ≤ 255 → L = P ++ sh15 k ++ R → P.length = n → v = k.size ∧ Bs.take j = k.data.toList.take j ∧ nj = n + 1 + j ∧ ej = 0
theorem shk_start {L : List UInt8} {n er v n1 e1 : Nat} (h : rw_ 1 L n er = (v, n1, e1)) (Bs : List UInt8) : Shk L n er v Bs 0 n1 e1 := by
  intro P k R he hk hL hP
  subst he
  unfold sh15 at hL
  have := rd_fld 1 (by decide) (k.size : Int) (by omega) (by simp; omega) L P (k.data.toList ++ R) n (by rw [hL]; simp only [List.append_assoc]) hP
  rw [this] at h
  injection h with h1 h
  injection h with h2 h3
  exact ⟨by omega, rfl, by omega, h3.symm⟩
theorem shk_step {L : List UInt8} {n er v j nj ej b n1 e1 : Nat} {Bs : List UInt8} (h : Shk L n er v Bs j nj ej) (hl : Bs.length = v) (hj : j < v) (hb : rw_ 1 L nj ej = (b, n1, e1)) : Shk L n er v (Bs.set j (UInt8.ofNat b)) (j + 1) n1 e1 := by
  intro P k R he hk hL hP
  obtain ⟨g1, g2, g3, g4⟩ := h P k R he hk hL hP
  subst g4
  have hks : k.data.toList.length = k.size := len_bs k
  obtain ⟨c, hc⟩ : ∃ c, k.data.toList[j]? = some c := ⟨_, List.getElem?_eq_getElem (by omega)⟩
  have hsp : k.data.toList = k.data.toList.take j ++ c :: k.data.toList.drop (j + 1) := by
    rw [← dropS hc, List.take_append_drop]
  unfold sh15 at hL
  have := rd_byte c L (P ++ fld 1 (k.size : Int) ++ k.data.toList.take j) (k.data.toList.drop (j + 1) ++ R) nj (by
    rw [hL]
    conv => lhs; rw [hsp]
    simp only [List.append_assoc, List.cons_append]) (by rw [List.length_append, List.length_append, len_fld, hP, List.length_take, Nat.min_eq_left (by omega)]; omega)
  rw [this] at hb
  injection hb with h1 hb
  injection hb with h2 h3
  refine ⟨g1, ?_, by omega, h3.symm⟩
  rw [List.take_add_one, List.take_set_of_le (Nat.le_refl _), g2, List.getElem?_set_self (by omega), ← h1, UInt8.ofNat_toNat]
  rw [List.take_add_one, hc]
theorem shk_end {L : List UInt8} {n er v nj ej : Nat} {Bs : List UInt8} (h : Shk L n er v Bs v nj ej) (hl : Bs.length = v) : Shr L n er ⟨Bs.toArray⟩ nj ej := by
  intro P k R he hk hL hP
  obtain ⟨g1, g2, g3, g4⟩ := h P k R he hk hL hP
  have hks : k.data.toList.length = k.size := len_bs k
  rw [List.take_of_length_le (by omega), List.take_of_length_le (by omega)] at g2
  exact ⟨by rw [g2, ← ba_self], by omega, g4⟩
theorem u8v_int (b : Nat) (hb : b ≤ 255) : u8v (UInt8.ofNat b) = .int .u8 b := by
  unfold u8v
  rw [UInt8.toNat_ofNat', Nat.mod_eq_of_lt (by omega)]
theorem bv_get {Bs : List UInt8} {v j : Nat} (h : Bs.length = v) (hj : j < v) : (bv Bs)[j]? = some (u8v (Bs.getD j 0)) := by
  unfold bv
  rw [List.getElem?_map, List.getElem?_eq_getElem (by omega), List.getD_eq_getElem?_getD, List.getElem?_eq_getElem (by omega)]
  rfl
set_option maxHeartbeats 4000000 in
theorem readShort_15 (L : List UInt8) (p n er : Nat) (w : World) (h : Rdr w p L n er) :
    Calls Try.prog 48 #[.pointer (some ⟨p, 0, none⟩)] w fun e w' => ∃ T n' er', e = .returned (.string T) ∧ T.size ≤ 255 ∧ Rdr w' p L n' er' ∧ Turn (fun k => k = p) w w' ∧ Shr L n er T n' er' := by
  obtain ⟨v, n1, e1, hv⟩ : ∃ v n1 e1, rw_ 1 L n er = (v, n1, e1) := ⟨_, _, _, rfl⟩
  have hv2 := rw1_le hv
  have HR := Lib.hid h
  have HV := Lib.hid hv
  clear h hv
  go_enter Try.func48, Try.ntmps48
  go_wp2_with (first
    | (go_at_call 46; refine (get8_any p L n er v n1 e1 HV.out _ HR.out).mono ?_; rintro e w1 ⟨rfl, hr1, ht1⟩; have R1 := Lib.hid hr1; have T1 := Lib.hid ht1; have hmk := make_nz15 v (by omega) w1; clear hr1 ht1))
  have hpw : Hid (p < w1.heap.size) := Lib.hid (by obtain ⟨_, _, _, hb, _⟩ := R1.out; exact hb.lt)
  go_loopw [10] (fun i wr => ∃ (j : Nat) (Bs : List UInt8) (nj ej : Nat), j ≤ v ∧ i = .int .i64 j ∧ Bs.length = v ∧ Blk wr w1.heap.size 5 (bv Bs) ∧ Rdr wr p L nj ej ∧ Turn (fun k => k = p ∨ k = w1.heap.size) (w1.alloc (.cells (bv (List.replicate v 0)).toArray 5)) wr ∧ Hid (Shk L n er v Bs j nj ej)) (fun i _ => v - (intOf i).toNat)
  case atStart =>
    exact ⟨0, List.replicate v 0, n1, e1, Nat.zero_le _, by go_num, by simp, Blk.new _ _ _, R1.out.tn15 ((Turn.refl (fun _ => False) _).alloc _) (fun k hk => hk.elim), Turn.refl _ _, Lib.hid (shk_start HV.out _)⟩
  case round =>
    obtain ⟨j, Bs, nj, ej, hj, rfl, hbl, hB, hr, ht, HK⟩ := hrel
    have HB := Lib.hid hB
    have HRJ := Lib.hid hr
    have HT := Lib.hid ht
    have HBL := Lib.hid hbl
    clear hB hr ht hbl
    by_cases hlt : j < v
    · obtain ⟨b, n2, e2, hb⟩ : ∃ b n2 e2, rw_ 1 L nj ej = (b, n2, e2) := ⟨_, _, _, rfl⟩
      have hb2 := rw1_le hb
      have HBV := Lib.hid hb
      have HJ := Lib.hid (show j + 1 ≤ v from hlt)
      clear hb
      go_wp2_with (first
        | (go_at_call 46; refine (get8_any p L nj ej b n2 e2 HBV.out _ HRJ.out).mono ?_; rintro e w2 ⟨rfl, hr2, ht2⟩; have R2 := Lib.hid hr2; have T2 := Lib.hid ht2; have B2 := Lib.hid (HB.out.turn ht2 (fun e => by have := hpw.out; omega)); have C2 := B2.out.cell j; rw [bv_get HBL.out hlt] at C2; have F2 := B2.out.free j; clear hr2 ht2))
      have hpw2 := hpw.out
      have tS : Turn (fun k => k = w1.heap.size) w2 (w2.setCell ⟨w1.heap.size, j, none⟩ (.int .u8 b)) := (Turn.refl (fun k => k = w1.heap.size) w2).setCell (p := ⟨w1.heap.size, j, none⟩) (.inl rfl) _
      have hBs : bv (Bs.set j (UInt8.ofNat b)) = (bv Bs).set j (.int .u8 b) := by
        unfold bv
        rw [List.map_set, u8v_int b hb2]
      refine ⟨⟨j + 1, Bs.set j (UInt8.ofNat b), n2, e2, hlt, by go_num, by rw [List.length_set]; exact HBL.out, by rw [hBs]; exact B2.out.put j _, R2.out.tn15 tS (fun k hk => by omega), (HT.out.trans (T2.out.mono (fun k _ hk => .inl hk))).trans (tS.mono (fun k _ hk => .inr hk)), Lib.hid (shk_step HK.out HBL.out hlt HBV.out)⟩, ?_⟩
      simp [intOf]
      omega
    · obtain rfl : j = v := by omega
      have hcv := blk_str15 j Bs HBL.out _ _ HB.out
      go_wp2
      go_ret
      refine ⟨_, nj, ej, rfl, by rw [len_bs2, HBL.out]; exact hv2, HRJ.out, ?_, shk_end HK.out HBL.out⟩
      exact (T1.out.trans ((Turn.refl _ w1).alloc _)).trans_new HT.out (fun k hk e => e.elim id (fun e2 => by have := T1.out.size; omega))
end Go.Proofs.Ytaebhbdmmnpgeaa
/- Layer 15: the program's Read, any record. -/
namespace Go.Proofs.Ytaebhbdmmnpgeaa
open Go.RowKit Go.Shelf
set_option linter.unusedVariables false
set_option linter.unusedSimpArgs false
set_option maxRecDepth 100000
attribute [local go_sem] Oper.semAt_some

/-- As Q; by a goto: what holds at its label. -/
def jumps15 (J : Nat → Act → World → Prop) (Q : Exit → Act → World → Prop) : Exit → Act → World → Prop
  | .goto l, a, w => J l a w
  | e, a, w => Q e a w
section
variable {P : Program} {a : Act} {w : World} {Q : Exit → Act → World → Prop}
/-- A scope in which the run jumps to several labels: what holds at each, and a measure that every pass lowers. -/
theorem wp_scope_many15 {c : Code} (J : Nat → Act → World → Prop) (μ : Nat → Act → World → Nat)
    (first : c.wp P (jumps15 J Q) a w)
    (pass : ∀ l a w, J l a w → ∃ rest, findLabel c l = some rest ∧ rest.wp P (jumps15 (fun l' a' w' => J l' a' w' ∧ μ l' a' w' < μ l a w) Q) a w) : (Code.scope c).wp P Q a w := by
  intro b k cs
  have hg : ∀ l rest, findLabel c l = some rest → gotoIn l (.inScope c :: k) = some (.code rest :: .inScope c :: k) := fun l rest hf => by simp [gotoIn, hf]
  have key : ∀ n l rest a w, μ l a w = n → J l a w → findLabel c l = some rest → ∃ e a' w', Q e a' w' ∧ Arrives P (lone (b.at a (.code rest :: .inScope c :: k)) cs w) b k cs e a' w' := by
    intro n
    induction n using Nat.strongRecOn with
    | _ n ih =>
      intro l rest a w hn hJ hf
      obtain ⟨rest', hf', hp⟩ := pass l a w hJ
      obtain rfl : rest' = rest := by rw [hf] at hf'; injection hf' with h; exact h.symm
      obtain ⟨e, a₁, w₁, hq, harr⟩ := hp b (.inScope c :: k) cs
      cases e with
      | normal => exact ⟨.normal, a₁, w₁, hq, Steps.trans harr (.one step_inScope)⟩
      | exit id => exact ⟨.exit id, a₁, w₁, hq, fun k' hk => harr k' (by simp [exitTo, hk])⟩
      | goto l' =>
        obtain ⟨hJ', hlt⟩ := hq
        obtain ⟨rest2, hf2, _⟩ := pass l' a₁ w₁ hJ'
        obtain ⟨e₂, a₂, w₂, hq₂, harr₂⟩ := ih _ (by omega) l' rest2 a₁ w₁ rfl hJ' hf2
        exact ⟨e₂, a₂, w₂, hq₂, .of_steps (harr _ (hg l' rest2 hf2)) harr₂⟩
      | ret => exact ⟨_, a₁, w₁, hq, harr⟩
      | panic ch => exact ⟨_, a₁, w₁, hq, harr⟩
      | outgrown => exact ⟨_, a₁, w₁, hq, harr⟩
  obtain ⟨e, a₁, w₁, hq, harr⟩ := first b (.inScope c :: k) cs
  cases e with
  | normal => exact ⟨.normal, a₁, w₁, hq, .head step_scope (Steps.trans harr (.one step_inScope))⟩
  | exit id => exact ⟨.exit id, a₁, w₁, hq, fun k' hk => .head step_scope (harr k' (by simp [exitTo, hk]))⟩
  | goto l' =>
    obtain ⟨rest2, hf2, _⟩ := pass l' a₁ w₁ hq
    obtain ⟨e₂, a₂, w₂, hq₂, harr₂⟩ := key _ l' rest2 a₁ w₁ rfl hq hf2
    exact ⟨e₂, a₂, w₂, hq₂, .of_steps (.head step_scope (harr _ (hg l' rest2 hf2))) harr₂⟩
  | ret => exact ⟨_, a₁, w₁, hq, .of_steps (.one step_scope) harr⟩
  | panic ch => exact ⟨_, a₁, w₁, hq, .of_steps (.one step_scope) harr⟩
  | outgrown => exact ⟨_, a₁, w₁, hq, .of_steps (.one step_scope) harr⟩
end
theorem own_tn15 {w w' : World} {base e size n : Nat} {v : Value} {xs : List Value} {S : Nat → Prop} (h : w.ownsRow base e size v n xs) (ht : Turn S w w') (hne : ∀ k, v.ownBlock = some k → ¬ S k) : w'.ownsRow base e size v n xs := by
  refine ⟨h.1, ?_⟩
  rcases h.2 with hn | ⟨g, cap, cur, rfl, hb, hgg, rest⟩
  · exact .inl hn
  · refine .inr ⟨g, cap, cur, rfl, hb, ?_, rest⟩
    rw [ht.block g (Array.getElem?_eq_some_iff.1 hgg).1 (hne g rfl)]
    exact hgg
theorem rdr_off15 {X X' : World} {p n er g t : Nat} {l : List UInt8} {cs : List Value} (h : Rdr X p l n er) (hg : Blk X g t cs) (hcs : ∀ u ∈ cs, ∀ c, u ≠ u8v c) (hne : p ≠ g) (ht : Turn (fun k => k = g) X X') : Rdr X' p l n er := by
  obtain ⟨A, cap, h1, h2, h3, h4⟩ := h
  have hlt := h2.lt
  refine ⟨A, cap, h1, h2.turn ht hne, fun hp => ?_, h4⟩
  obtain ⟨⟨b, o, sp⟩, e, hs, hb, hc⟩ := h3 hp
  simp only at hs hb
  subst hs
  refine ⟨⟨b, o, none⟩, e, rfl, hb, fun j c hj => ?_⟩
  have hcj := hc j c hj
  rw [Addr.add_mid] at hcj ⊢
  exact (World.cell?_of_block (w := X) (a := ⟨b, o + j, none⟩) (ht.block b (by omega) (fun e2 => by subst e2; rw [hg.cell] at hcj; exact hcs _ (List.mem_of_getElem? hcj) c rfl))).trans hcj
/-- What Read holds: its result, the batch, a change, the reader. -/
structure Fb (w X : World) (L : List UInt8) (b5 b8 p n er : Nat) (tm : Int) (v : Value) (D : List Cg) (y : Cg) : Prop where
  A : Blk X w.heap.size 24 [.int .i64 0, .slice none 0 0]
  B5 : Blk X b5 24 [.int .i64 tm, v]
  B8 : Blk X b8 92 (cc y)
  r : Rdr X p L n er
  co : Co (p + 1) X v D
  l1 : w.heap.size < b5
  l2 : b5 < b8
  l3 : b8 < p
  t : Turn (fun _ => False) w X
section
variable {w X X' : World} {L : List UInt8} {b5 b8 p n er n' er' : Nat} {tm : Int} {v v' : Value} {D D' : List Cg} {y y' : Cg}
theorem Fb.gt (h : Fb w X L b5 b8 p n er tm v D y) : p < X.heap.size := by obtain ⟨_, _, _, hb, _⟩ := h.r; exact hb.lt
theorem Fb.ow (h : Fb w X L b5 b8 p n er tm v D y) : ∀ k, v.ownBlock = some k → p + 1 ≤ k := fun k hk => (own_ge9 h.co k hk).1
theorem Fb.rd (h : Fb w X L b5 b8 p n er tm v D y) (hr : Rdr X' p L n' er') (ht : Turn (fun k => k = p) X X') : Fb w X' L b5 b8 p n' er' tm v D y := by
  have h1 := h.l1; have h2 := h.l2; have h3 := h.l3
  exact ⟨h.A.turn ht (fun e => by omega), h.B5.turn ht (fun e => by omega), h.B8.turn ht (fun e => by omega), hr, own_tn15 h.co ht (fun k hk e => by have := h.ow k hk; omega), h1, h2, h3, h.t.trans_new ht (fun k hk e => by omega)⟩
theorem Fb.still (h : Fb w X L b5 b8 p n er tm v D y) (ht : Turn (fun _ => False) X X') : Fb w X' L b5 b8 p n er tm v D y := by
  exact ⟨h.A.turn ht (fun e => e), h.B5.turn ht (fun e => e), h.B8.turn ht (fun e => e), h.r.tn15 ht (fun k hk => hk.elim), own_tn15 h.co ht (fun k hk e => e), h.l1, h.l2, h.l3, h.t.trans ht⟩
theorem cc_no_u8 (y : Cg) : ∀ u ∈ cc y, ∀ c, u ≠ u8v c := by
  intro u hu c e
  subst e
  simp [cc, u8v] at hu
theorem Fb.b5_no (h : Fb w X L b5 b8 p n er tm v D y) : ∀ u ∈ [Value.int .i64 tm, v], ∀ c, u ≠ u8v c := by
  intro u hu c e
  obtain ⟨A, cp, hv⟩ := own_slice_ h.co
  subst e
  rw [hv] at hu
  simp [u8v] at hu
theorem Fb.set8 (h : Fb w X L b5 b8 p n er tm v D y) (i : Nat) (u : Value) (he : (cc y).set i u = cc y') : Fb w (X.setCell ⟨b8, i, none⟩ u) L b5 b8 p n er tm v D y' := by
  have h1 := h.l1; have h2 := h.l2; have h3 := h.l3
  have ht : Turn (fun k => k = b8) X (X.setCell ⟨b8, i, none⟩ u) := (Turn.refl (fun k => k = b8) X).setCell (p := ⟨b8, i, none⟩) (.inl rfl) _
  exact ⟨h.A.turn ht (fun e => by omega), h.B5.turn ht (fun e => by omega), he ▸ h.B8.put i u, rdr_off15 h.r h.B8 (cc_no_u8 y) (by omega) ht, own_tn15 h.co ht (fun k hk e => by have := h.ow k hk; omega), h1, h2, h3, h.t.trans_new ht (fun k hk e => by omega)⟩
theorem Fb.set5 (h : Fb w X L b5 b8 p n er tm v D y) (t' : Int) : Fb w (X.setCell ⟨b5, 0, none⟩ (.int .i64 t')) L b5 b8 p n er t' v D y := by
  have h1 := h.l1; have h2 := h.l2; have h3 := h.l3
  have ht : Turn (fun k => k = b5) X (X.setCell ⟨b5, 0, none⟩ (.int .i64 t')) := (Turn.refl (fun k => k = b5) X).setCell (p := ⟨b5, 0, none⟩) (.inl rfl) _
  exact ⟨h.A.turn ht (fun e => by omega), h.B5.put 0 _, h.B8.turn ht (fun e => by omega), rdr_off15 h.r h.B5 h.b5_no (by omega) ht, own_tn15 h.co ht (fun k hk e => by have := h.ow k hk; omega), h1, h2, h3, h.t.trans_new ht (fun k hk e => by omega)⟩
theorem Fb.app (h : Fb w X L b5 b8 p n er tm v D y) (hc : Co (p + 1) X' v' D') (hT : Turn (fun k => v.ownBlock = some k) X X') : Fb w (X'.setCell ⟨b5, 1, none⟩ v') L b5 b8 p n er tm v' D' y := by
  have h1 := h.l1; have h2 := h.l2; have h3 := h.l3; have h4 := h.gt
  have hno : ∀ k, k ≤ p → ¬ v.ownBlock = some k := fun k hk e => by have := h.ow k e; omega
  have hB5 := h.B5.turn hT (hno _ (by omega))
  have hB8 := h.B8.turn hT (hno _ (by omega))
  have hA := h.A.turn hT (hno _ (by omega))
  have hr : Rdr X' p L n er := by
    obtain ⟨A, cap, g1, g2, g3, g4⟩ := h.r
    exact ⟨A, cap, g1, g2.turn hT (hno _ (Nat.le_refl _)), g3.turn hT (by omega) (fun k hk => hno k (by omega)), g4⟩
  have ht : Turn (fun k => k = b5) X' (X'.setCell ⟨b5, 1, none⟩ v') := (Turn.refl (fun k => k = b5) X').setCell (p := ⟨b5, 1, none⟩) (.inl rfl) _
  exact ⟨hA.turn ht (fun e => by omega), hB5.put 1 _, hB8.turn ht (fun e => by omega), rdr_off15 hr hB5 h.b5_no (by omega) ht, own_tn15 hc ht (fun k hk e => by have := (own_ge9 hc k hk).1; omega), h1, h2, h3, (h.t.trans_new hT (fun k hk e => absurd e (hno k (by omega)))).trans_new ht (fun k hk e => by omega)⟩
end
theorem Fb.b5_app {w X X' : World} {L : List UInt8} {b5 b8 p n er : Nat} {tm : Int} {v : Value} {D : List Cg} {y : Cg} (h : Fb w X L b5 b8 p n er tm v D y) (hT : Turn (fun k => v.ownBlock = some k) X X') : Blk X' b5 24 [.int .i64 tm, v] := by
  have h1 := h.l1; have h2 := h.l2; have h3 := h.l3; have h4 := h.gt
  exact h.B5.turn hT (fun e => by have := h.ow _ e; omega)
theorem Fb.cxA {w X X' : World} {L : List UInt8} {b5 b8 p n er : Nat} {tm : Int} {v : Value} {D : List Cg} {y : Cg} (h : Fb w X L b5 b8 p n er tm v D y) (hl : D.length ≤ 255) (ht : Turn (fun k => k = w.heap.size) X X') : Cx X' v D := by
  have h1 := h.l1; have h2 := h.l2; have h3 := h.l3
  have hc : Co (p + 1) X' v D := own_tn15 h.co ht (fun k hk e => by have := h.ow k hk; omega)
  exact hc.cx (by omega)
theorem cells3g {W : World} {q t : Nat} {u0 u1 u2 : Value} (h : Blk W q t [u0, u1, u2]) : W.cell? ⟨q, 0, none⟩ = some u0 ∧ W.cell? ⟨q, 1, none⟩ = some u1 ∧ W.cell? ⟨q, 2, none⟩ = some u2 ∧ W.frozen? ⟨q, 0, none⟩ = false ∧ W.frozen? ⟨q, 1, none⟩ = false ∧ W.frozen? ⟨q, 2, none⟩ = false := ⟨h.cell 0, h.cell 1, h.cell 2, h.free 0, h.free 1, h.free 2⟩
/-- What Read's labels know, besides. -/
def JK15 (S : ByteArray) (l : Nat) (x : Nat → Value) (tm : Int) (v : Value) (D : List Cg) (n er : Nat) : Prop :=
  (l = 0 ∧ x 6 = .int .i64 0 ∧ tm = 0 ∧ v = .slice none 0 0 ∧ D = [] ∧ rw_ 1 S.data.toList 0 0 = (66, n, er)) ∨
  (l = 4 ∧ x 6 = .int .i64 0 ∧ (∃ left : Nat, x 7 = .int .i64 left ∧ left + D.length ≤ 255 ∧ Nx S.data.toList tm D left n er) ∧ (∀ z ∈ D, z.k.size ≤ 255 ∧ z.v.size ≤ 255) ∧ ∃ n0 e0, rw_ 1 S.data.toList 0 0 = (66, n0, e0)) ∨
  (l = 1 ∧ tm = 0 ∧ v = .slice none 0 0 ∧ D = [] ∧ rw_ 1 S.data.toList 0 0 = (77, n, er)) ∨
  (l = 3 ∧ ∃ (m err : Int) (own : ByteArray), x 6 = .int .i64 m ∧ x 9 = .string own ∧ x 10 = .int .i64 err ∧ D.length ≤ 255 ∧ (err = 0 → own = S → Res15 S tm D m 0) ∧ (¬ (err = 0 ∧ own = S) → Res15 S 0 [] 0 4)) ∨
  (l = 2 ∧ Res15 S 0 [] 0 4)
/-- What Read's labels know. -/
def JR15 (w : World) (S : ByteArray) (l : Nat) (a : Act) (X : World) : Prop :=
  ∃ (x : Nat → Value) (b5 b8 p n er : Nat) (tm : Int) (v : Value) (D : List Cg) (y : Cg), a = { tmps := Fr68 x, defers := [] } ∧ x 0 = .string S ∧ x 2 = .pointer (some ⟨w.heap.size, 0, none⟩) ∧ x 5 = .pointer (some ⟨b5, 0, none⟩) ∧ x 8 = .pointer (some ⟨b8, 0, none⟩) ∧ x 11 = .pointer (some ⟨p, 0, none⟩) ∧ Fb w X S.data.toList b5 b8 p n er tm v D y ∧ JK15 S l x tm v D n er
def mu15 (l : Nat) (a : Act) (_ : World) : Nat := if l = 0 then 1000 else if l = 4 then (intOf (a.tmps.getD 7 undef)).toNat + 10 else if l = 3 then 3 else if l = 1 then 5 else 1
theorem JR15.mk {w X : World} {S : ByteArray} {l : Nat} {tm : Array Value} {b5 b8 p n er : Nat} {t : Int} {v : Value} {D : List Cg} {y : Cg} (hfr : tm = Fr68 (fun i => tm.getD i undef)) (h0 : tm.getD 0 undef = .string S) (h2 : tm.getD 2 undef = .pointer (some ⟨w.heap.size, 0, none⟩)) (h5 : tm.getD 5 undef = .pointer (some ⟨b5, 0, none⟩)) (h8 : tm.getD 8 undef = .pointer (some ⟨b8, 0, none⟩)) (h11 : tm.getD 11 undef = .pointer (some ⟨p, 0, none⟩))
    (hF : Fb w X S.data.toList b5 b8 p n er t v D y) (hk : JK15 S l (fun i => tm.getD i undef) t v D n er) : JR15 w S l { tmps := tm, defers := [] } X :=
  ⟨fun i => tm.getD i undef, b5, b8, p, n, er, t, v, D, y, congrArg (fun t => ({ tmps := t, defers := [] } : Act)) hfr, h0, h2, h5, h8, h11, hF, hk⟩
theorem res_none {S : ByteArray} {b n1 e1 : Nat} (h : rw_ 1 S.data.toList 0 0 = (b, n1, e1)) (h1 : b ≠ 66) (h2 : b ≠ 77) : Res15 S 0 [] 0 4 := by
  refine .inr (.inr ⟨rfl, rfl, rfl, rfl, fun t C hC => ?_, fun m _ hm => ?_⟩)
  · have := (on_head (by_on hC).1).1
    rw [h] at this
    injection this with e _
    exact h1 e
  · have := mrk_head m _ hm
    rw [h] at this
    injection this with e _
    exact h2 e
theorem res_batch {S : ByteArray} {tm : Int} {D : List Cg} {n er n0 e0 : Nat} (h : Nx S.data.toList tm D 0 n er) (h0 : rw_ 1 S.data.toList 0 0 = (66, n0, e0)) : ((by15 tm D).2 = 0 → (by15 tm D).1 = S → Res15 S tm D 0 0) ∧ (¬ ((by15 tm D).2 = 0 ∧ (by15 tm D).1 = S) → Res15 S 0 [] 0 4) := by
  refine ⟨fun h1 h2 => .inl ⟨rfl, rfl, by rw [← h1, ← h2]⟩, fun hn => .inr (.inr ⟨rfl, rfl, rfl, rfl, fun t C hC => ?_, fun m _ hm => ?_⟩)⟩
  · obtain ⟨rfl, rfl⟩ := nx_end h t C (by_on hC).1
    exact hn ⟨by rw [hC], by rw [hC]⟩
  · have := mrk_head m _ hm
    rw [h0] at this
    injection this with e _
    cases e
theorem res_mark {S : ByteArray} {n1 e1 v8 n2 e2 : Nat} (h0 : rw_ 1 S.data.toList 0 0 = (77, n1, e1)) (h1 : rw_ 8 S.data.toList n1 e1 = (v8, n2, e2)) (m : Int) (hm : m = wrap64 (v8 : Int)) : (mok15 m = true → (⟨(mrk15 m).toArray⟩ : ByteArray) = S → Res15 S 0 [] m 0) ∧ (¬ (mok15 m = true ∧ (⟨(mrk15 m).toArray⟩ : ByteArray) = S) → Res15 S 0 [] 0 4) := by
  refine ⟨fun g1 g2 => .inr (.inl ⟨rfl, rfl, rfl, g1, by rw [← g2]⟩), fun hn => .inr (.inr ⟨rfl, rfl, rfl, rfl, fun t C hC => ?_, fun k hk hkm => ?_⟩)⟩
  · have := (on_head (by_on hC).1).1
    rw [h0] at this
    injection this with e _
    cases e
  · have hk2 := hk
    unfold mok15 at hk2
    simp at hk2
    have a1 := mrk_head k _ hkm
    rw [h0] at a1
    injection a1 with _ a1
    injection a1 with a1 a2
    subst a1 a2
    have a3 := mrk_i64 hk2.1 hk2.2
    rw [hkm, h1] at a3
    injection a3 with a3 _
    have hmk : m = k := by rw [hm, a3]; unfold wrap64; omega
    subst hmk
    exact hn ⟨hk, by rw [hkm]⟩
end Go.Proofs.Ytaebhbdmmnpgeaa
/- Layer 15: the program's Read, walked. -/
namespace Go.Proofs.Ytaebhbdmmnpgeaa
open Go.RowKit Go.Shelf
set_option linter.unusedVariables false
set_option linter.unusedSimpArgs false
set_option maxRecDepth 100000
attribute [local go_sem] Oper.semAt_some

theorem str_other {a b : ByteArray} (h : a ≠ b) : (a.toList == b.toList) = false := by
  rw [beq_eq_false_iff_ne]
  intro e
  rw [ByteArray.toList_eq, ByteArray.toList_eq] at e
  exact h (by rw [ba_self a, ba_self b, e])
set_option maxHeartbeats 8000000 in
theorem read_15 (S : ByteArray) (hS : S.size ≤ 140737488355000) (w : World) :
    Calls Try.prog 12 #[.string S] w fun e w' => ∃ (t : Int) (v : Value) (D : List Cg) (m er : Int), e = .returned (.tuple #[.agg #[.int .i64 t, v], .int .i64 m, .int .i64 er]) ∧ Cx w' v D ∧ Res15 S t D m er ∧ D.length ≤ 255 ∧ Turn (fun _ => False) w w' := by
  obtain ⟨b, n1, e1, hb⟩ : ∃ b n1 e1, rw_ 1 S.data.toList 0 0 = (b, n1, e1) := ⟨_, _, _, rfl⟩
  have HB := Lib.hid hb
  have hbs : b = 66 ∨ b = 77 ∨ (b ≠ 66 ∧ b ≠ 77) := by omega
  clear hb
  obtain ⟨Wa, hWa⟩ : ∃ W, w.alloc (.cells #[.int .i64 0, .slice none 0 0] 24) = W := ⟨_, rfl⟩
  obtain ⟨Wb, hWb⟩ : ∃ W, Wa.alloc (.cells #[.int .i64 0, .slice none 0 0] 24) = W := ⟨_, rfl⟩
  obtain ⟨Wc, hWc⟩ : ∃ W, Wb.alloc (.cells #[.string ⟨#[]⟩, .string ⟨#[]⟩, .bool false] 92) = W := ⟨_, rfl⟩
  have T0 : Hid (Turn (fun _ => False) w Wc) := Lib.hid (hWc ▸ (hWb ▸ (hWa ▸ (Turn.refl (fun _ => False) w).alloc (.cells #[.int .i64 0, .slice none 0 0] 24) : Turn (fun _ => False) w Wa).alloc (.cells #[.int .i64 0, .slice none 0 0] 24) : Turn (fun _ => False) w Wb).alloc _)
  have BA : Hid (Blk Wc w.heap.size 24 [.int .i64 0, .slice none 0 0]) := Lib.hid (hWc ▸ (show Blk Wb w.heap.size 24 [.int .i64 0, .slice none 0 0] from hWb ▸ (show Blk Wa w.heap.size 24 [.int .i64 0, .slice none 0 0] from hWa ▸ Blk.new _ _ _).alloc _).alloc _)
  have BB : Hid (Blk Wc Wa.heap.size 24 [.int .i64 0, .slice none 0 0]) := Lib.hid (hWc ▸ (show Blk Wb Wa.heap.size 24 [.int .i64 0, .slice none 0 0] from hWb ▸ Blk.new _ _ _).alloc _)
  have BC : Hid (Blk Wc Wb.heap.size 92 (cc ⟨⟨#[]⟩, ⟨#[]⟩, false⟩)) := Lib.hid (hWc ▸ Blk.new _ _ _)
  have hab : w.heap.size < Wa.heap.size := by rw [← hWa]; simp
  have hbb : Wa.heap.size < Wb.heap.size := by rw [← hWb]; simp
  have hbc : Wb.heap.size < Wc.heap.size := by rw [← hWc]; simp
  go_enter Try.func12, Try.ntmps12
  go_wp2_with fail
  refine wp_scope_many15 (JR15 w S) mu15 ?_ ?_
  · have HC : Hid ((b = 66 ∧ ((b : Int) == 66) = true) ∨ (b = 77 ∧ ((b : Int) == 66) = false ∧ ((b : Int) == 77) = true) ∨ ((b ≠ 66 ∧ b ≠ 77) ∧ ((b : Int) == 66) = false ∧ ((b : Int) == 77) = false)) := Lib.hid (by
      rcases hbs with rfl | rfl | ⟨h1, h2⟩
      · exact .inl ⟨rfl, rfl⟩
      · exact .inr (.inl ⟨rfl, rfl, rfl⟩)
      · exact .inr (.inr ⟨⟨h1, h2⟩, by simp; omega, by simp; omega⟩))
    clear hbs
    have hf0 : ∀ (w3 w4 : World) (p : Nat), Wc.heap.size ≤ p → Turn (fun _ => False) Wc w3 → Rdr w4 p S.data.toList n1 e1 → Turn (fun k => k = p) w3 w4 → Fb w w4 S.data.toList Wa.heap.size Wb.heap.size p n1 e1 0 (.slice none 0 0) [] ⟨⟨#[]⟩, ⟨#[]⟩, false⟩ := fun w3 w4 p hp h3 hr h4 =>
      ⟨(BA.out.turn h3 (fun h => h)).turn h4 (fun e => by omega), (BB.out.turn h3 (fun h => h)).turn h4 (fun e => by omega), (BC.out.turn h3 (fun h => h)).turn h4 (fun e => by omega), hr, co_nil _ _, hab, hbb, by omega, (T0.out.trans h3).trans_new h4 (fun k hk e => by omega)⟩
    have HF0 := Lib.hid hf0
    clear hf0
    rcases HC.out with ⟨hb6, q1⟩ | ⟨hb6, q1, q2⟩ | ⟨hb6, q1, q2⟩
    all_goals have HB6 := Lib.hid hb6
    all_goals clear hb6 HC
    all_goals go_wp2_with (first
      | (refine wpList_conv_slG rfl _ rfl S rfl (by omega) ?_; intro A2 c2 w2 hs2 ht2; have S2 := Lib.hid hs2; have T2 := Lib.hid ht2; clear hs2 ht2)
      | (go_at_call 45; refine (newR_G _ _ _ S2.out (by rw [len_bs]; omega)).mono ?_; rintro e w3 ⟨p, rfl, hr3, hp3, ht3⟩; have R3 := Lib.hid hr3; have P3 := Lib.hid hp3; have T3 := Lib.hid (T2.out.trans ht3); clear hr3 hp3 ht3)
      | (go_at_call 46; refine (get8_any p _ 0 0 b n1 e1 HB.out _ R3.out).mono ?_; rintro e w4 ⟨rfl, hr4, ht4⟩; have R4 := Lib.hid hr4; have T4 := Lib.hid ht4; clear hr4 ht4))
    all_goals have hFB := HF0.out w3 w4 p (by have := P3.out; have := T2.out.size; omega) T3.out R4.out T4.out
    all_goals go_step3
    all_goals simp only [Exit.inBlock, Exit.then, jumps15]
    · exact JR15.mk rfl rfl rfl rfl rfl rfl hFB (.inl ⟨rfl, rfl, rfl, rfl, rfl, HB6.out ▸ HB.out⟩)
    · exact JR15.mk rfl rfl rfl rfl rfl rfl hFB (.inr (.inr (.inl ⟨rfl, rfl, rfl, rfl, HB6.out ▸ HB.out⟩)))
    · exact JR15.mk rfl rfl rfl rfl rfl rfl hFB (.inr (.inr (.inr (.inr ⟨rfl, res_none HB.out HB6.out.1 HB6.out.2⟩))))
  · clear hWa hWb hWc T0 BA BB BC hab hbb hbc Wa Wb Wc HB hbs b n1 e1
    rintro l a X ⟨x, b5, b8, p, n, er, tm, v, D, y, rfl, h0, h2, h5, h8, h11, hF, hk⟩
    have hs0 := str_same S
    rcases hk with ⟨rfl, h6, rfl, rfl, rfl, hr0⟩ | ⟨rfl, h6, ⟨left, h7, hld, hnx⟩, hsm, n0, e0, hr0⟩ | ⟨rfl, rfl, rfl, rfl, hr0⟩ | ⟨rfl, m, err, own, h6, h9, h10, hld, hy, hn⟩ | ⟨rfl, hres⟩
    · -- a batch
      refine ⟨_, rfl, ?_⟩
      obtain ⟨v8, n2, e2, h8b⟩ : ∃ v8 n2 e2, rw_ 8 S.data.toList n er = (v8, n2, e2) := ⟨_, _, _, rfl⟩
      obtain ⟨left, n3, e3, h9b⟩ : ∃ v n3 e3, rw_ 1 S.data.toList n2 e2 = (v, n3, e3) := ⟨_, _, _, rfl⟩
      have hl255 := rw1_le h9b
      have H8 := Lib.hid h8b
      have H9 := Lib.hid h9b
      have HNX := Lib.hid (nx_start hr0 h8b h9b)
      have FF0 := Lib.hid hF
      have HR0 := Lib.hid hr0
      clear hF h8b h9b hr0
      obtain ⟨t0, ht0⟩ : ∃ m, wrap64 (v8 : Int) = m := ⟨_, rfl⟩
      rw [ht0] at HNX
      have HM := Lib.hid ht0
      clear ht0
      obtain ⟨z0, z1, z2, z3⟩ := cells2g FF0.out.B5
      obtain ⟨AV, hAV⟩ : ∃ A : Option Addr, A = none := ⟨_, rfl⟩
      have HAV := Lib.hid hAV
      clear hAV
      have HBY := Lib.hid (fun W => bytes_15 t0 [] (.slice AV 0 0) W ⟨AV, 0, rfl, by simp, fun h => by simp at h⟩)
      obtain ⟨own, err, hoe⟩ : ∃ own err, by15 t0 [] = (own, err) := ⟨_, _, rfl⟩
      rw [hoe] at HBY
      have HOE := Lib.hid hoe
      clear hoe
      simp only [Fr68, h0, h2, h5, h8, h11, h6]
      clear h0 h2 h5 h8 h11 h6
      have hcase : (((left : Int) == 0) = true ∧ left = 0) ∨ (((left : Int) == 0) = false ∧ 0 < left) := by
        cases hq : ((left : Int) == 0)
        · right; refine ⟨rfl, ?_⟩; simp at hq; omega
        · exact .inl ⟨rfl, by simpa using hq⟩
      have hld : left + 0 ≤ 255 := by omega
      have HND : Hid (([] : List Cg).length = 0) := Lib.hid rfl
      have HSM : Hid (∀ z ∈ ([] : List Cg), z.k.size ≤ 255 ∧ z.v.size ≤ 255) := Lib.hid (fun z hz => by cases hz)
      go_wp2_with (first
        | (go_at_call 47; refine (get64_any p _ n er v8 n2 e2 H8.out _ FF0.out.r).mono ?_; rw [HM.out]; rintro e w5 ⟨rfl, hr5, ht5⟩; have F5 := Lib.hid (FF0.out.rd hr5 ht5); obtain ⟨u0, u1, u2, u3⟩ := cells2g F5.out.B5; have G5 := Lib.hid (F5.out.set5 t0); clear hr5 ht5)
        | (go_at_call 46; refine (get8_any p _ n2 e2 left n3 e3 H9.out _ G5.out.r).mono ?_; rintro e w6 ⟨rfl, hr6, ht6⟩; have FF : Hid (Fb w w6 S.data.toList b5 b8 p n3 e3 t0 (.slice AV 0 0) [] y) := Lib.hid (HAV.out ▸ G5.out.rd hr6 ht6); obtain ⟨y0, y1⟩ := cells2b FF.out.B5; clear hr6 ht6))
      go_step3
      rcases hcase with ⟨hq, hl0⟩ | ⟨hq, hpos⟩
      · have HL0 := Lib.hid hl0
        clear hl0
        go_wp2_with (first
          | (go_at_call 23; refine (HBY.out _).mono ?_; rintro e w7 ⟨rfl, ht7⟩; have F7 := Lib.hid (FF.out.still ht7); clear ht7))
        go_step3
        simp only [Exit.inBlock, Exit.then, jumps15]
        have hl0 := HL0.out
        have hnx := HNX.out
        rw [hl0] at hnx
        obtain ⟨rb1, rb2⟩ := res_batch hnx HR0.out
        rw [HOE.out] at rb1 rb2
        refine ⟨JR15.mk rfl rfl rfl rfl rfl rfl F7.out (.inr (.inr (.inr (.inl ⟨rfl, 0, err, own, rfl, rfl, rfl, by have := HND.out; omega, rb1, rb2⟩)))), ?_⟩
        unfold mu15
        simp
        try omega
      · obtain ⟨dv, n1, e1, hdv⟩ : ∃ dv n1 e1, rw_ 1 S.data.toList n3 e3 = (dv, n1, e1) := ⟨_, _, _, rfl⟩
        have HDV := Lib.hid hdv
        clear hdv
        go_wp2_with (first
          | (go_at_call 46; refine (get8_any p _ n3 e3 dv n1 e1 HDV.out _ FF.out.r).mono ?_; rintro e w5 ⟨rfl, hr5, ht5⟩; have F5 := Lib.hid (FF.out.rd hr5 ht5); obtain ⟨a0, a1, a2, f0, f1, f2⟩ := cells3g F5.out.B8; have G5 := Lib.hid (F5.out.set8 (y' := ⟨y.k, y.v, (dv : Int) == 1⟩) 2 (.bool ((dv : Int) == 1)) rfl); clear hr5 ht5)
          | (go_at_call 48; refine (readShort_15 _ p n2 e2 _ G6.out.r).mono ?_; rintro e w7 ⟨T2, n3, e3, rfl, hz2, hr7, ht7, hs7⟩; have F7 := Lib.hid (G6.out.rd hr7 ht7); have HS7 := Lib.hid hs7; obtain ⟨l0, l1, l2, k0, k1, k2⟩ := cells3g F7.out.B8; have G7 := Lib.hid (F7.out.set8 (y' := ⟨T1, T2, (dv : Int) == 1⟩) 1 (.string T2) rfl); obtain ⟨o0, o1⟩ := cells2b G7.out.B5; obtain ⟨q0, q1, q2, _, _, _⟩ := cells3g G7.out.B8; clear hr7 ht7 hs7)
          | (go_at_call 48; refine (readShort_15 _ p n1 e1 _ G5.out.r).mono ?_; rintro e w6 ⟨T1, n2, e2, rfl, hz1, hr6, ht6, hs6⟩; have F6 := Lib.hid (G5.out.rd hr6 ht6); have HS6 := Lib.hid hs6; obtain ⟨b0, b1, b2, g0, g1, g2⟩ := cells3g F6.out.B8; have G6 := Lib.hid (F6.out.set8 (y' := ⟨T1, y.v, (dv : Int) == 1⟩) 0 (.string T1) rfl); clear hr6 ht6 hs6)
          | (at_builtin; refine wpList_app1c rfl _ _ rfl (p + 1) (.slice AV 0 0) [] 0 w7.heap.size ⟨T1, T2, (dv : Int) == 1⟩ rfl HND.out (G7.out.still ((Turn.refl _ _).alloc (.cells #[.string T1, .string T2, .bool ((dv : Int) == 1)] 92))).co rfl (Blk.new_ (w7.setCell ⟨b8, 1, none⟩ (.string T2)) 92 [.string T1, .string T2, .bool ((dv : Int) == 1)] (by simp)) (by omega) (by have := G7.out.gt; simp at this ⊢; omega) ?_; intro A9 c9 w9 ho9 ht9; have H9 := Lib.hid ((G7.out.still ((Turn.refl _ _).alloc (.cells #[.string T1, .string T2, .bool ((dv : Int) == 1)] 92))).app ho9 ht9); obtain ⟨m0, m1, m2, m3⟩ := cells2g ((G7.out.still ((Turn.refl _ _).alloc (.cells #[.string T1, .string T2, .bool ((dv : Int) == 1)] 92))).b5_app ht9); clear ho9 ht9))
        go_step3
        simp only [Exit.inBlock, Exit.then, jumps15]
        obtain ⟨k, hk⟩ : ∃ k, left = k + 1 := ⟨left - 1, by omega⟩
        have hnx := HNX.out
        rw [hk] at hnx
        have hnx2 := nx_step (dd := (dv : Int) == 1) hnx HDV.out rfl HS6.out HS7.out
        have hkl : (left : Int) - 1 = (k : Int) := by omega
        refine ⟨JR15.mk rfl rfl rfl rfl rfl rfl H9.out (.inr (.inl ⟨rfl, rfl, ⟨k, congrArg (Value.int .i64) hkl, by have := HND.out; simp only [List.length_append, List.length_singleton]; omega, hnx2⟩, fun z hz => ?_, ⟨_, _, HR0.out⟩⟩)), ?_⟩
        · rcases List.mem_append.1 hz with hz | hz
          · exact HSM.out z hz
          · rw [List.mem_singleton] at hz
            rw [hz]
            exact ⟨hz1, hz2⟩
        · unfold mu15
          simp [intOf]
          omega
    · -- the next change
      refine ⟨_, rfl, ?_⟩
      have FF := Lib.hid hF
      have HNX := Lib.hid hnx
      have HSM := Lib.hid hsm
      have HR0 := Lib.hid hr0
      clear hF hnx hsm hr0

      obtain ⟨AV, cV, rfl⟩ := own_slice_ FF.out.co
      obtain ⟨nD, hnD⟩ : ∃ k, D.length = k := ⟨_, rfl⟩
      rw [hnD] at FF hld
      have HND := Lib.hid hnD
      have HBY := Lib.hid (fun W (h : Cx W (.slice AV nD cV) D) => bytes_15 tm D _ W h)
      obtain ⟨own, err, hoe⟩ : ∃ own err, by15 tm D = (own, err) := ⟨_, _, rfl⟩
      rw [hoe] at HBY
      have HOE := Lib.hid hoe
      obtain ⟨y0, y1⟩ := cells2b FF.out.B5
      have y1f := FF.out.B5.free 1
      have hcx := FF.out.co.cx (by omega)
      have HCX := Lib.hid hcx
      clear hcx hnD hoe
      simp only [Fr68, h0, h2, h5, h8, h11, h6, h7]
      clear h0 h2 h5 h8 h11 h6 h7
      have hcase : (((left : Int) == 0) = true ∧ left = 0) ∨ (((left : Int) == 0) = false ∧ 0 < left) := by
        cases hq : ((left : Int) == 0)
        · right; refine ⟨rfl, ?_⟩; simp at hq; omega
        · exact .inl ⟨rfl, by simpa using hq⟩
      rcases hcase with ⟨hq, hl0⟩ | ⟨hq, hpos⟩
      · have HL0 := Lib.hid hl0
        clear hl0
        go_wp2_with (first
          | (go_at_call 23; refine (HBY.out _ HCX.out).mono ?_; rintro e w7 ⟨rfl, ht7⟩; have F7 := Lib.hid (FF.out.still ht7); clear ht7))
        go_step3
        simp only [Exit.inBlock, Exit.then, jumps15]
        have hl0 := HL0.out
        have hnx := HNX.out
        rw [hl0] at hnx
        obtain ⟨rb1, rb2⟩ := res_batch hnx HR0.out
        rw [HOE.out] at rb1 rb2
        refine ⟨JR15.mk rfl rfl rfl rfl rfl rfl F7.out (.inr (.inr (.inr (.inl ⟨rfl, 0, err, own, rfl, rfl, rfl, by have := HND.out; omega, rb1, rb2⟩)))), ?_⟩
        unfold mu15
        simp
        try omega
      · obtain ⟨dv, n1, e1, hdv⟩ : ∃ dv n1 e1, rw_ 1 S.data.toList n er = (dv, n1, e1) := ⟨_, _, _, rfl⟩
        have HDV := Lib.hid hdv
        clear hdv
        go_wp2_with (first
          | (go_at_call 46; refine (get8_any p _ n er dv n1 e1 HDV.out _ FF.out.r).mono ?_; rintro e w5 ⟨rfl, hr5, ht5⟩; have F5 := Lib.hid (FF.out.rd hr5 ht5); obtain ⟨a0, a1, a2, f0, f1, f2⟩ := cells3g F5.out.B8; have G5 := Lib.hid (F5.out.set8 (y' := ⟨y.k, y.v, (dv : Int) == 1⟩) 2 (.bool ((dv : Int) == 1)) rfl); clear hr5 ht5)
          | (go_at_call 48; refine (readShort_15 _ p n2 e2 _ G6.out.r).mono ?_; rintro e w7 ⟨T2, n3, e3, rfl, hz2, hr7, ht7, hs7⟩; have F7 := Lib.hid (G6.out.rd hr7 ht7); have HS7 := Lib.hid hs7; obtain ⟨l0, l1, l2, k0, k1, k2⟩ := cells3g F7.out.B8; have G7 := Lib.hid (F7.out.set8 (y' := ⟨T1, T2, (dv : Int) == 1⟩) 1 (.string T2) rfl); obtain ⟨o0, o1⟩ := cells2b G7.out.B5; obtain ⟨q0, q1, q2, _, _, _⟩ := cells3g G7.out.B8; clear hr7 ht7 hs7)
          | (go_at_call 48; refine (readShort_15 _ p n1 e1 _ G5.out.r).mono ?_; rintro e w6 ⟨T1, n2, e2, rfl, hz1, hr6, ht6, hs6⟩; have F6 := Lib.hid (G5.out.rd hr6 ht6); have HS6 := Lib.hid hs6; obtain ⟨b0, b1, b2, g0, g1, g2⟩ := cells3g F6.out.B8; have G6 := Lib.hid (F6.out.set8 (y' := ⟨T1, y.v, (dv : Int) == 1⟩) 0 (.string T1) rfl); clear hr6 ht6 hs6)
          | (at_builtin; refine wpList_app1c rfl _ _ rfl (p + 1) (.slice AV nD cV) D nD w7.heap.size ⟨T1, T2, (dv : Int) == 1⟩ rfl HND.out (G7.out.still ((Turn.refl _ _).alloc (.cells #[.string T1, .string T2, .bool ((dv : Int) == 1)] 92))).co rfl (Blk.new_ (w7.setCell ⟨b8, 1, none⟩ (.string T2)) 92 [.string T1, .string T2, .bool ((dv : Int) == 1)] (by simp)) (by omega) (by have := G7.out.gt; simp at this ⊢; omega) ?_; intro A9 c9 w9 ho9 ht9; have H9 := Lib.hid ((G7.out.still ((Turn.refl _ _).alloc (.cells #[.string T1, .string T2, .bool ((dv : Int) == 1)] 92))).app ho9 ht9); obtain ⟨m0, m1, m2, m3⟩ := cells2g ((G7.out.still ((Turn.refl _ _).alloc (.cells #[.string T1, .string T2, .bool ((dv : Int) == 1)] 92))).b5_app ht9); clear ho9 ht9))
        go_step3
        simp only [Exit.inBlock, Exit.then, jumps15]
        obtain ⟨k, hk⟩ : ∃ k, left = k + 1 := ⟨left - 1, by omega⟩
        have hnx := HNX.out
        rw [hk] at hnx
        have hnx2 := nx_step (dd := (dv : Int) == 1) hnx HDV.out rfl HS6.out HS7.out
        have hkl : (left : Int) - 1 = (k : Int) := by omega
        refine ⟨JR15.mk rfl rfl rfl rfl rfl rfl H9.out (.inr (.inl ⟨rfl, rfl, ⟨k, congrArg (Value.int .i64) hkl, by have := HND.out; simp only [List.length_append, List.length_singleton]; omega, hnx2⟩, fun z hz => ?_, ⟨_, _, HR0.out⟩⟩)), ?_⟩
        · rcases List.mem_append.1 hz with hz | hz
          · exact HSM.out z hz
          · rw [List.mem_singleton] at hz
            rw [hz]
            exact ⟨hz1, hz2⟩
        · unfold mu15
          simp [intOf]
          omega
    · -- a mark
      refine ⟨_, rfl, ?_⟩
      obtain ⟨v8, n2, e2, h8b⟩ : ∃ v8 n2 e2, rw_ 8 S.data.toList n er = (v8, n2, e2) := ⟨_, _, _, rfl⟩
      have H8 := Lib.hid h8b
      have HRM := Lib.hid (res_mark hr0 h8b _ rfl)
      have FF := Lib.hid hF
      have HR0 := Lib.hid hr0
      clear hF h8b hr0
      obtain ⟨m, hm⟩ : ∃ m, wrap64 (v8 : Int) = m := ⟨_, rfl⟩
      rw [hm] at HRM
      have HM := Lib.hid hm
      clear hm
      have HMK := Lib.hid (fun W => mark_any15 m W)
      simp only [Fr68, h0, h2, h5, h8, h11]
      clear h0 h2 h5 h8 h11
      unfold mkv15 at HMK
      cases hok : mok15 m with
      | true =>
        rw [hok] at HMK HRM
        simp only [if_true] at HMK
        obtain ⟨own, hown⟩ : ∃ o : ByteArray, (⟨(mrk15 m).toArray⟩ : ByteArray) = o := ⟨_, rfl⟩
        rw [hown] at HMK HRM
        clear hown hok
        by_cases hs : own = S
        · have HS := Lib.hid hs
          have hq : (own.toList == S.toList) = true := by rw [hs]; exact hs0
          clear hs
          go_wp2_with (first
            | (go_at_call 47; refine (get64_any p _ n er v8 n2 e2 H8.out _ FF.out.r).mono ?_; rw [HM.out]; rintro e w5 ⟨rfl, hr5, ht5⟩; have F5 := Lib.hid (FF.out.rd hr5 ht5); clear hr5 ht5)
            | (go_at_call 25; refine (HMK.out _).mono ?_; rintro e w6 ⟨rfl, ht6⟩; have F6 := Lib.hid (F5.out.still ht6); clear ht6))
          obtain ⟨z0, z1, z2, z3⟩ := cells2g F6.out.A
          obtain ⟨y0, y1⟩ := cells2b F6.out.B5
          go_step3
          go_wp2_with fail
          try simp only [Exit.inBlock, Exit.then, jumps15]
          obtain ⟨BZ, TZ⟩ := box2g F6.out.A (.int .i64 0) (.slice none 0 0)
          obtain ⟨r0, r1⟩ := cells2b BZ
          refine bodyPost_ret (v := .tuple #[.agg #[.int .i64 0, (.slice none 0 0)], .int .i64 m, .int .i64 0]) (by simp [results, Try.results12, go_sem, r0, r1]) rfl ⟨0, (.slice none 0 0), [], m, 0, rfl, F6.out.cxA (by simp) TZ, (HRM.out.1 (by first | rfl | trivial) HS.out), (by simp), F6.out.t.trans_new TZ (fun k hk e => by omega)⟩
        · have HS := Lib.hid hs
          have hq : (own.toList == S.toList) = false := str_other hs
          clear hs
          go_wp2_with (first
            | (go_at_call 47; refine (get64_any p _ n er v8 n2 e2 H8.out _ FF.out.r).mono ?_; rw [HM.out]; rintro e w5 ⟨rfl, hr5, ht5⟩; have F5 := Lib.hid (FF.out.rd hr5 ht5); clear hr5 ht5)
            | (go_at_call 25; refine (HMK.out _).mono ?_; rintro e w6 ⟨rfl, ht6⟩; have F6 := Lib.hid (F5.out.still ht6); clear ht6))
          obtain ⟨z0, z1, z2, z3⟩ := cells2g F6.out.A
          go_step3
          go_wp2_with fail
          go_step3
          go_wp2_with fail
          try simp only [Exit.inBlock, Exit.then, jumps15]
          obtain ⟨BZ, TZ⟩ := box2g F6.out.A (.int .i64 0) (.slice none 0 0)
          obtain ⟨r0, r1⟩ := cells2b BZ
          refine bodyPost_ret (v := .tuple #[.agg #[.int .i64 0, (.slice none 0 0)], .int .i64 0, .int .i64 4]) (by simp [results, Try.results12, go_sem, r0, r1]) rfl ⟨0, (.slice none 0 0), [], 0, 4, rfl, (co_nil _ _).cx (by simp) (B := 0), HRM.out.2 (fun h => HS.out h.2), by simp, F6.out.t.trans_new TZ (fun k hk e => by omega)⟩
      | false =>
        rw [hok] at HMK HRM
        simp only [Bool.false_eq_true, if_false] at HMK
        have HNO := Lib.hid (HRM.out.2 (fun h => by cases h.1))
        clear hok
        go_wp2_with (first
          | (go_at_call 47; refine (get64_any p _ n er v8 n2 e2 H8.out _ FF.out.r).mono ?_; rw [HM.out]; rintro e w5 ⟨rfl, hr5, ht5⟩; have F5 := Lib.hid (FF.out.rd hr5 ht5); clear hr5 ht5)
          | (go_at_call 25; refine (HMK.out _).mono ?_; rintro e w6 ⟨rfl, ht6⟩; have F6 := Lib.hid (F5.out.still ht6); clear ht6))
        obtain ⟨z0, z1, z2, z3⟩ := cells2g F6.out.A
        go_step3
        go_wp2_with fail
        go_step3
        go_wp2_with fail
        try simp only [Exit.inBlock, Exit.then, jumps15]
        obtain ⟨BZ, TZ⟩ := box2g F6.out.A (.int .i64 0) (.slice none 0 0)
        obtain ⟨r0, r1⟩ := cells2b BZ
        refine bodyPost_ret (v := .tuple #[.agg #[.int .i64 0, (.slice none 0 0)], .int .i64 0, .int .i64 4]) (by simp [results, Try.results12, go_sem, r0, r1]) rfl ⟨0, (.slice none 0 0), [], 0, 4, rfl, (co_nil _ _).cx (by simp) (B := 0), HNO.out, by simp, F6.out.t.trans_new TZ (fun k hk e => by omega)⟩
    · -- the end
      refine ⟨_, rfl, ?_⟩
      have FF := Lib.hid hF
      have HN := Lib.hid hn
      have HY := Lib.hid hy
      clear hF hn hy
      obtain ⟨AV, cV, rfl⟩ := own_slice_ FF.out.co
      obtain ⟨nD, hnD⟩ : ∃ k, D.length = k := ⟨_, rfl⟩
      rw [hnD] at FF
      have HLD := Lib.hid hld
      clear hnD hld
      simp only [Fr68, h0, h2, h5, h8, h11, h6, h9, h10]
      clear h0 h2 h5 h8 h11 h6 h9 h10
      by_cases he : err = 0
      · subst he
        by_cases hs : own = S
        · have HS := Lib.hid hs
          have hq : (own.toList == S.toList) = true := by rw [hs]; exact hs0
          clear hs
          obtain ⟨z0, z1, z2, z3⟩ := cells2g FF.out.A
          obtain ⟨y0, y1⟩ := cells2b FF.out.B5
          go_wp2_with fail
          try simp only [Exit.inBlock, Exit.then, jumps15]
          obtain ⟨BZ, TZ⟩ := box2g FF.out.A (.int .i64 tm) (.slice AV nD cV)
          obtain ⟨r0, r1⟩ := cells2b BZ
          refine bodyPost_ret (v := .tuple #[.agg #[.int .i64 tm, (.slice AV nD cV)], .int .i64 m, .int .i64 0]) (by simp [results, Try.results12, go_sem, r0, r1]) rfl ⟨tm, (.slice AV nD cV), D, m, 0, rfl, FF.out.cxA HLD.out TZ, (HY.out (by first | rfl | trivial) HS.out), HLD.out, FF.out.t.trans_new TZ (fun k hk e => by omega)⟩
        · have HS := Lib.hid hs
          have hq : (own.toList == S.toList) = false := str_other hs
          clear hs
          obtain ⟨z0, z1, z2, z3⟩ := cells2g FF.out.A
          go_wp2_with fail
          go_step3
          go_wp2_with fail
          try simp only [Exit.inBlock, Exit.then, jumps15]
          obtain ⟨BZ, TZ⟩ := box2g FF.out.A (.int .i64 0) (.slice none 0 0)
          obtain ⟨r0, r1⟩ := cells2b BZ
          refine bodyPost_ret (v := .tuple #[.agg #[.int .i64 0, (.slice none 0 0)], .int .i64 0, .int .i64 4]) (by simp [results, Try.results12, go_sem, r0, r1]) rfl ⟨0, (.slice none 0 0), [], 0, 4, rfl, (co_nil _ _).cx (by simp) (B := 0), HN.out (fun h => HS.out h.2), by simp, FF.out.t.trans_new TZ (fun k hk e => by omega)⟩
      · have HE := Lib.hid he
        have hq : (err == 0) = false := by simp [he]
        clear he
        obtain ⟨z0, z1, z2, z3⟩ := cells2g FF.out.A
        go_wp2_with fail
        go_step3
        go_wp2_with fail
        try simp only [Exit.inBlock, Exit.then, jumps15]
        obtain ⟨BZ, TZ⟩ := box2g FF.out.A (.int .i64 0) (.slice none 0 0)
        obtain ⟨r0, r1⟩ := cells2b BZ
        refine bodyPost_ret (v := .tuple #[.agg #[.int .i64 0, (.slice none 0 0)], .int .i64 0, .int .i64 4]) (by simp [results, Try.results12, go_sem, r0, r1]) rfl ⟨0, (.slice none 0 0), [], 0, 4, rfl, (co_nil _ _).cx (by simp) (B := 0), HN.out (fun h => HE.out h.1), by simp, FF.out.t.trans_new TZ (fun k hk e => by omega)⟩
    · -- wrong
      refine ⟨_, rfl, ?_⟩
      have FF := Lib.hid hF
      have HRS := Lib.hid hres
      clear hF hres
      simp only [Fr68, h0, h2, h5, h8, h11]
      clear h0 h2 h5 h8 h11
      obtain ⟨z0, z1, z2, z3⟩ := cells2g FF.out.A
      go_wp2_with fail
      try simp only [Exit.inBlock, Exit.then, jumps15]
      obtain ⟨BZ, TZ⟩ := box2g FF.out.A (.int .i64 0) (.slice none 0 0)
      obtain ⟨r0, r1⟩ := cells2b BZ
      refine bodyPost_ret (v := .tuple #[.agg #[.int .i64 0, (.slice none 0 0)], .int .i64 0, .int .i64 4]) (by simp [results, Try.results12, go_sem, r0, r1]) rfl ⟨0, (.slice none 0 0), [], 0, 4, rfl, (co_nil _ _).cx (by simp) (B := 0), HRS.out, by simp, FF.out.t.trans_new TZ (fun k hk e => by omega)⟩
end Go.Proofs.Ytaebhbdmmnpgeaa
