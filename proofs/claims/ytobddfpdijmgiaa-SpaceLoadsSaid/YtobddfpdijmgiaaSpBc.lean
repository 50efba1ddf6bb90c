/- Layer 14, plain: what keeps items right; what a step tells. -/
import Derived.Test.YtobddfpdijmgiaaSpBj
namespace Go.Proofs.Ytobddfpdijmgiaa
open Go.RowKit Go.Shelf
set_option linter.unusedVariables false
set_option linter.unusedSimpArgs false
set_option maxRecDepth 100000

def BI (N : Nat) (I : List Itm) : Prop := I.length ≤ N ∧ ∀ x ∈ I, x.vs.length ≤ N ∧ x.k.size ≤ 128
theorem bi_of {N : Nat} {M : List (Itm × Value)} (h : Bm N M) : BI N (M.map (fun p : Itm × Value => p.1)) :=
  ⟨by rw [List.length_map]; exact h.1, fun x hx => by obtain ⟨p, hp, rfl⟩ := List.mem_map.1 hx; exact h.2 p hp⟩
theorem BI.le {N K : Nat} {I : List Itm} (h : BI N I) (hk : N ≤ K) : BI K I := ⟨by have := h.1; omega, fun x hx => ⟨by have := (h.2 x hx).1; omega, (h.2 x hx).2⟩⟩
theorem vcm_mem {I : List Itm} {m : Int} {x : Itm} (h : x ∈ vcm I m) : ∃ y ∈ I, x.k = y.k ∧ x.vs = vac13 y.vs m ∧ x.vs ≠ [] := by
  unfold vcm at h
  obtain ⟨h1, h2⟩ := List.mem_filter.1 h
  obtain ⟨y, hy, rfl⟩ := List.mem_map.1 h1
  exact ⟨y, hy, rfl, rfl, fun e => by
    have e2 : vac13 y.vs m = [] := e
    simp [e2] at h2⟩
theorem vcm_bi {N : Nat} {I : List Itm} (h : BI N I) (m : Int) : BI N (vcm I m) := by
  refine ⟨Nat.le_trans ?_ h.1, fun x hx => ?_⟩
  · unfold vcm
    exact Nat.le_trans (List.length_filter_le _ _) (by rw [List.length_map]; exact Nat.le_refl _)
  · obtain ⟨y, hy, e1, e2, _⟩ := vcm_mem hx
    rw [e1, e2]
    exact ⟨Nat.le_trans (vac_len _ _) (h.2 y hy).1, (h.2 y hy).2⟩
theorem chn_top {L : List Vn} {last : Int} (h : chn L = true) (h0 : ∀ y, L[0]? = some y → y.t ≤ last) : ∀ y ∈ L, y.t ≤ last := by
  have hd := (chn_iff L).1 h
  rcases L with _ | ⟨z, L⟩
  · simp
  · intro y hy
    have h1 := h0 z rfl
    rcases List.mem_cons.1 hy with rfl | hy
    · exact h1
    · have := (List.pairwise_cons.1 hd.2).1 y hy
      omega
theorem vcm_wf {I : List Itm} {last : Int} (h : Wf I last) (m : Int) : Wf (vcm I m) last := by
  refine ⟨?_, fun x hx => ?_⟩
  · refine h.1.sublist ?_
    unfold vcm
    have h1 := (List.filter_sublist (p := fun x : Itm => !x.vs.isEmpty) (l := I.map (fun x => (⟨x.k, vac13 x.vs m⟩ : Itm)))).map (fun x : Itm => x.k)
    rw [List.map_map] at h1
    exact h1
  · obtain ⟨y, hy, e1, e2, e3⟩ := vcm_mem hx
    obtain ⟨k1, k2, k3, k4⟩ := (fit_iff y last).1 (h.2 y hy)
    have hs : x.vs.Sublist y.vs := by
      rw [e2]
      unfold vac13
      rw [if_pos k3]
      exact vacf_sub _ _
    refine (fit_iff x last).2 ⟨by rw [e1]; exact k1, e3, (chn_iff _).2 (((chn_iff _).1 k3).sub hs), fun z hz => chn_top k3 k4 z (hs.subset (List.mem_of_getElem? hz))⟩
theorem wf_okI {I : List Itm} {last : Int} (h : Wf I last) : okI I last = true := by
  refine okI_true fun j hj => ?_
  unfold okL
  have hx : I[j]? = some I[j] := List.getElem?_eq_getElem hj
  rw [hx]
  simp only [h.2 _ (List.getElem_mem hj), Bool.true_and]
  match j, hj with
  | 0, _ => rfl
  | k + 1, hj =>
    have hk : k < I.length := by omega
    show (match I[k]? with | none => false | some y => lt14 y.k (I[k + 1]).k) = true
    rw [List.getElem?_eq_getElem hk]
    have := List.pairwise_iff_getElem.1 h.1 k (k + 1) (by simpa using hk) (by simpa using hj) (by omega)
    simpa using this
theorem mch_ok {L : List Cg} (h : mch L = true) : ∀ x ∈ L, ok1 x = true := fun x hx => by
  obtain ⟨j, hj⟩ := List.getElem?_of_mem hx
  have hl : j < L.length := (List.getElem?_eq_some_iff.1 hj).1
  unfold mch at h
  have h1 := List.all_eq_true.1 h j (List.mem_range.2 hl)
  rw [okc_at hj, Bool.and_eq_true] at h1
  exact h1.1
theorem aplR_bi {N : Nat} {I : List Itm} {t : Int} {C : List Cg} (h : BI N I) (hw : Wf (aplR I t C) t) : BI (N + C.length + 1) (aplR I t C) := by
  have h1 := aplR_len t (fun p hp => (h.2 p hp).1) C.length C rfl
  refine ⟨by have := h1.1; have := h.1; omega, fun x hx => ⟨by have := h1.2 x hx; omega, ((fit_iff x t).1 (hw.2 x hx)).1⟩⟩
/-- What a step tells. -/
def Stp (w : World) (q : Nat) (vk : Value) (g : Nat) (N : Nat) (v : Value) (w' : World) : Prop := ∃ q' vk' g' M' last' mark' mv' Md', v = .tuple #[.pointer (some ⟨q', 0, none⟩), .agg #[mv', .int .i64 last', .int .i64 mark'], .bool true] ∧
  St14 w' q' vk' g' M' last' mark' mv' Md' N ∧ (∀ k, Sw q' vk' g' k → Sw q vk g k ∨ w.heap.size ≤ k) ∧ Turn (Sw q vk g) w w'
/-- .. and what it leaves as it was. -/
def Stq (w : World) (q : Nat) (vk : Value) (g : Nat) (I : List Itm) (last mark k t : Int) (N : Nat) (v : Value) (w' : World) : Prop := ∃ q' vk' g' M' last' mark' mv' Md', v = .tuple #[.pointer (some ⟨q', 0, none⟩), .agg #[mv', .int .i64 last', .int .i64 mark'], .bool true] ∧
  St14 w' q' vk' g' M' last' mark' mv' Md' N ∧ (∀ k, Sw q' vk' g' k → Sw q vk g k ∨ w.heap.size ≤ k) ∧ Turn (Sw q vk g) w w' ∧ (mark' = mark ∨ k = 1 ∧ mark' = mark + t) ∧ ∀ s, mark ≤ s → mark' ≤ s → s ≤ last → s ≤ last' ∧ Sm14 (M'.map (fun p : Itm × Value => p.1)) I s
theorem Stq.stp {w w' : World} {q g N : Nat} {vk v : Value} {I : List Itm} {last mark k t : Int} (h : Stq w q vk g I last mark k t N v w') : Stp w q vk g N v w' := by
  obtain ⟨q', vk', g', M', last', mark', mv', Md', h1, h2, h3, h4, _⟩ := h
  exact ⟨q', vk', g', M', last', mark', mv', Md', h1, h2, h3, h4⟩
theorem Ix.turnS {S : Nat → Prop} {w w' : World} {v : Value} {M : List (Itm × Value)} (h : Ix w v M) (ha : ∀ k, S k → Ap14 k v M) (ht : Turn S w w') : Ix w' v M := by
  obtain ⟨A, c, rfl, hl, hr, hw⟩ := h
  refine ⟨A, c, rfl, hl, hr.turn ht (fun hp ad e hS => ?_), fun p hp => (hw p hp).turn ht (fun h b hb hS => (ha b hS).2 p hp h b hb rfl)⟩
  rw [flat_len ic_len] at hp
  subst e
  exact (ha _ hS).1 (by omega) _ rfl rfl
theorem vr_not_blk {w : World} {b t : Nat} {cs : List Value} {v : Value} {L : List Vn} (h : Vr w v L) (h0 : 0 < L.length) (hb : vb v = some b) (hB : Blk w b t cs) (hs : ∀ c ∈ cs, ∀ s, c ≠ .string s) : False := by
  obtain ⟨A, c, rfl, hl, hr⟩ := h
  obtain ⟨b', o, rfl, hb', hc⟩ := hr h0
  have e : some b' = some b := hb
  cases e
  have h1 := (hc 0 L[0] (List.getElem?_eq_getElem h0)).2.1
  rw [hB.cell] at h1
  exact hs _ (List.mem_of_getElem? h1) _ rfl
/-- How a step that keeps the space ends: its result's box written. -/
theorem stp_end {w W5 w8 w9 : World} {q g r : Nat} {vk mv vk8 v2 x0 x1 x2 : Value} {M Md M2 M8 : List (Itm × Value)} {I2 : List Itm} {last mark last' mark' k t : Int} {N N' tt : Nat} (hkk : mark' = mark ∨ k = 1 ∧ mark' = mark + t) (hmm : ∀ s, mark ≤ s → mark' ≤ s → s ≤ last → s ≤ last' ∧ Sm14 I2 (M.map (fun p : Itm × Value => p.1)) s) (h : St14 w q vk g M last mark mv Md N)
    (t5 : Turn (fun _ => False) w W5) (hr : w.heap.size ≤ r) (hr5 : r < W5.heap.size) (br : Blk w8 r tt [x0, x1, x2]) (hx : ∀ c ∈ [x0, x1, x2], ∀ s, c ≠ Value.string s)
    (ix : Ix W5 v2 M2) (ha : ∀ k, Sw q vk g k → Ap14 k v2 M2) (har : Ap14 r v2 M2) (e2 : M2.map (fun p : Itm × Value => p.1) = I2)
    (s8 : Sp w8 q vk8 g M8 last' mark') (f8 : ∀ k, Sw q vk8 g k → Sw q vk g k ∨ W5.heap.size ≤ k) (t8 : Turn (Sw q vk g) W5 w8) (e8 : M8.map (fun p : Itm × Value => p.1) = I2)
    (wf : Wf I2 last') (bi : BI N' I2) (rg : 0 ≤ mark' ∧ mark' ≤ last' ∧ last' ≤ 1152921504606846976) (ts : Turn (fun k => k = r) w8 w9) :
    Stq w q vk g (M.map (fun p : Itm × Value => p.1)) last mark k t N' (.tuple #[.pointer (some ⟨q, 0, none⟩), .agg #[v2, .int .i64 last', .int .i64 mark'], .bool true]) w9 := by
  have hb := h.sp.below
  have hs5 := t5.size
  have hne : ∀ k, Sw q vk8 g k → k ≠ r := fun k hk e => by
    rcases f8 k hk with h1 | h1
    · have := hb k h1; omega
    · omega
  refine ⟨q, vk8, g, M8, last', mark', v2, M2, rfl, ⟨?_, ?_, e2.trans e8.symm, e8 ▸ wf, rg, ?_, bm_of e8 bi⟩, fun k hk => (f8 k hk).imp id (fun h1 => by omega), ((t5.mono (fun k _ h => h.elim)).trans t8).trans_new ts (fun k hk e => by omega), hkk, fun s h1 h2 h3 => by rw [e8]; exact hmm s h1 h2 h3⟩
  · exact s8.turn ts (hne _ (.inl rfl)) (hne _ (.inr (.inl rfl))) (fun k hk => hne k (.inr (.inr hk))) (fun p hp h0 b hb2 e => by
      subst e
      exact vr_not_blk (s8.vers p hp).1.1 h0 hb2 br hx)
  · exact (ix.turnS ha t8).turn har ts
  · intro k hk
    rcases f8 k hk with h1 | h1
    · exact ha k h1
    · exact ix.ap h1
end Go.Proofs.Ytobddfpdijmgiaa
