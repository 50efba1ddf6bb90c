/- Layer 13: the program's place, cut. -/
import Derived.Test.YtobddfpdijmgiaaVcH
import Derived.Test.YtobddfpdijmgiaaSrch
import Derived.Test.YtobddfpdijmgiaaAppB
namespace Go.Proofs.Ytobddfpdijmgiaa
open Go.RowKit
set_option linter.unusedVariables false
set_option linter.unusedSimpArgs false
set_option maxRecDepth 100000

/-- The place of the first version whose time is not above t. -/
def plc (L : List Vn) (t : Int) : Nat := L.findIdx (fun x => decide (x.t ≤ t))
def kt (L : List Vn) (i : Nat) : Int := match L[i]? with
  | some x => x.t
  | none => 0
theorem kt_at {L : List Vn} {i : Nat} {x : Vn} (h : L[i]? = some x) : kt L i = x.t := by unfold kt; rw [h]
theorem plc_le (L : List Vn) (t : Int) : plc L t ≤ L.length := List.findIdx_le_length
theorem plc_is {L : List Vn} {t : Int} {r : Nat} (h0 : r ≤ L.length) (h1 : ∀ i, i < r → decide (kt L i ≤ t) = false) (h2 : r < L.length → decide (kt L r ≤ t) = true) : plc L t = r := by
  induction L generalizing r with
  | nil => simp [plc] at *; omega
  | cons a L ih =>
    unfold plc at *
    rw [List.findIdx_cons]
    cases r with
    | zero =>
      have := h2 (by simp)
      rw [kt_at (L := a :: L) (i := 0) rfl] at this
      rw [this]; rfl
    | succ r =>
      have h3 := h1 0 (by omega)
      rw [kt_at (L := a :: L) (i := 0) rfl] at h3
      rw [h3, ih (r := r) (by simpa using h0) (fun i hi => by have := h1 (i + 1) (by omega); exact this) (fun hi => by have := h2 (by simpa using hi); exact this)]
      rfl
theorem dn_mono {L : List Vn} (h : Dn L) {a b : Nat} (hab : a ≤ b) (hb : b < L.length) (t : Int) (h1 : decide (kt L a ≤ t) = true) : decide (kt L b ≤ t) = true := by
  rcases Nat.lt_or_ge a b with h2 | h2
  · have h3 := List.pairwise_iff_getElem.1 h.2 a b (by omega) hb h2
    rw [kt_at (List.getElem?_eq_getElem hb)]
    rw [kt_at (List.getElem?_eq_getElem (by omega))] at h1
    simp at h1 ⊢
    omega
  · have : a = b := by omega
    subst this
    exact h1
theorem place1_13 (L : List Vn) (A : Option Addr) (c : Nat) (t : Int) (bl bt i : Nat) (w : World) (hi : i < L.length) (h : Vr w (.slice A L.length c) L)
    (hc : w.cell? ⟨bl, 0, none⟩ = some (.slice A L.length c)) (hk : w.cell? ⟨bt, 0, none⟩ = some (.int .i64 t)) :
    Calls Try.prog 142 #[.int .i64 i, .pointer (some ⟨bl, 0, none⟩), .pointer (some ⟨bt, 0, none⟩)] w fun e w' => e = .returned (.bool (decide (kt L i ≤ t))) ∧ Turn (fun _ => False) w w' := by
  obtain ⟨x, hx⟩ : ∃ x, L[i]? = some x := ⟨_, List.getElem?_eq_getElem hi⟩
  rw [kt_at hx]
  obtain ⟨A', c', e, hl, hr⟩ := h
  injection e with e1 _ e3
  subst e1 e3
  obtain ⟨b, o, rfl, hb, hcc⟩ := hr (by omega)
  obtain ⟨c0, c1, c2⟩ := hcc i x hx
  have hi1 : (i : Int) < (L.length : Int) := by omega
  have hi2 : (0 : Int) ≤ (i : Int) := by omega
  clear hcc hx hr
  generalize L.length = n at *
  go_enter Try.func142, Try.ntmps142
  go_wp2_with fail
  go_quiet (fail)
  go_wp2_with fail
  go_ret
  exact ⟨rfl, (Turn.refl _ w).drewN _⟩
theorem place13 (L : List Vn) (v : Value) (t : Int) (w : World) (h : Vr w v L) (hd : chn L = true) (hb : L.length ≤ 1000000000) :
    Calls Try.prog 116 #[v, .int .i64 t] w fun e w' => e = .returned (.int .i64 (plc L t : Nat)) ∧ Turn (fun _ => False) w w' := by
  have hD := (chn_iff L).1 hd
  obtain ⟨A, c, rfl⟩ := h.len
  have T2 := Lib.hid (((Turn.refl (fun _ => False) w).alloc (.cells #[.slice A L.length c] 23)).alloc (.cells #[.int .i64 t] 3))
  have B1 := Lib.hid ((Blk.new w 23 [.slice A L.length c]).alloc (.cells #[.int .i64 t] 3))
  have B2 := Lib.hid (Blk.new (w.alloc (.cells #[.slice A L.length c] 23)) 3 [.int .i64 t])
  obtain ⟨W2, hW2⟩ : ∃ W, (w.alloc (.cells #[.slice A L.length c] 23)).alloc (.cells #[.int .i64 t] 3) = W := ⟨_, rfl⟩
  have hs : (w.alloc (.cells #[.slice A L.length c] 23)).heap.size = w.heap.size + 1 := by simp
  rw [hs] at B2
  rw [hW2] at T2 B1 B2
  have HC := Lib.hid (search_n 142 #[.pointer (some ⟨w.heap.size, 0, none⟩), .pointer (some ⟨w.heap.size + 1, 0, none⟩)] L.length (fun i => decide (kt L i ≤ t)) W2 (fun _ _ => rfl) hb
    (fun X hX i hi => place1_13 L A c t _ _ i X hi (h.still (T2.out.trans hX)) ((B1.out.turn hX (fun h => h)).cell 0) ((B2.out.turn hX (fun h => h)).cell 0))
    (fun a b h1 h2 h3 => dn_mono hD h1 h2 t h3))
  have HP := Lib.hid (fun r h0 h1 h2 => plc_is (L := L) (t := t) (r := r) h0 h1 h2)
  have c0 : W2.cell? ⟨w.heap.size, 0, none⟩ = some (.slice A L.length c) := B1.out.cell 0
  clear hs h hd hD B1 B2
  generalize plc L t = p at *
  generalize L.length = n at *
  go_enter Try.func116, Try.ntmps116
  go_wp2_with (go_at_call 141; refine HC.out.mono ?_; rintro e w3 ⟨⟨r, rfl, hr, h1, h2⟩, ht⟩; have hp := HP.out r hr h1 h2; have T3 := Lib.hid (T2.out.trans ht); clear ht h1 h2)
  go_ret
  exact ⟨by rw [hp]; rfl, T3.out⟩
/-- A slice's length is at most its capacity. -/
def Cv (v : Value) : Prop := ∀ A n c, v = .slice A n c → n ≤ c
/-- A slice's length is at most its capacity, and what it holds lies above a base. -/
def Cw (B : Nat) (v : Value) : Prop := ∀ A n c, v = .slice A n c → n ≤ c ∧ (0 < n → ∀ a, A = some a → B ≤ a.block)
theorem Cw.cv {B : Nat} {v : Value} (h : Cw B v) : Cv v := fun A n c e => (h A n c e).1
theorem cut13n (L : List Vn) (v : Value) (i k : Nat) (w : World) (h : Vr w v L) (hcv : Cv v) (hik : i ≤ k) (hkn : k ≤ L.length) (hb : L.length ≤ 1000000000) :
    Calls Try.prog 137 #[v, .int .i64 i, .int .i64 k] w fun e w' => ∃ v', e = .returned v' ∧ Vr w' v' ((L.drop i).take (k - i)) ∧ Cw w.heap.size v' ∧ Turn (fun _ => False) w w' := by
  obtain ⟨A, c, rfl⟩ := h.len
  obtain ⟨n, hn⟩ : ∃ n, L.length = n := ⟨_, rfl⟩
  have HV := Lib.hid h
  have HN := Lib.hid hn
  have hc := hcv _ _ _ rfl
  rw [hn] at hc hkn hb HV ⊢
  have q0 : (i : Int) ≤ (k : Int) := by omega
  have q1 : (k : Int) ≤ (n : Int) := by omega
  have q2 : (k : Int) ≤ (c : Int) := by omega
  have q3 : (i : Int) ≤ (c : Int) := by omega
  have HLN : Hid (((L.drop i).take (k - i)).length = k - i) := Lib.hid (by rw [List.length_take, List.length_drop, HN.out]; omega)
  have HRC : Hid (Rc w.drew (if c = i then A else Option.map (fun x => x.add (i * 3)) A) (((L.drop i).take (k - i)).flatMap vc)) := Lib.hid ((rc_part vc_len L w A c i k h.rc (by omega)).still ((Turn.refl _ _).drew))
  clear h hn hcv
  go_enter Try.func137, Try.ntmps137
  go_wp2_with fail
  refine wp_region_noPanic ?_
  refine wp_region_held_drew (S := (fun _ => True)) (by kernel_rfl) trivial (fun hHeld => ?_)
  refine wpAnyH_take (i := 0) (v := ?_) rfl (by kernel_rfl) (by kernel_rfl) (by kernel_rfl) (fun _ _ _ h => h) (Or.inl ⟨by rfl, ?_⟩) (by assumption) ?_
  rotate_left 1
  · intro w' hSw
    go_simp
    all_goals first | with_reducible rfl | (rw [if_neg (by omega)]; done) | (rw [if_pos (by omega)]; done) | (rw [if_neg (by omega)]; with_reducible rfl) | (rw [if_pos (by omega)]; with_reducible rfl)
  try simp only [List.getElem_toArray, List.getElem_cons_zero, Act.put, List.setIfInBounds_toArray, List.set_cons_zero, List.set_cons_succ]
  refine wpAnyH_take (i := 1) (v := ?_) rfl (by kernel_rfl) (by kernel_rfl) (by kernel_rfl) (fun _ _ _ h => h) (Or.inl ⟨by rfl, ?_⟩) (by assumption) ?_
  rotate_left 1
  · intro w' hSw
    go_simp
    all_goals first | with_reducible rfl | (rw [if_neg (by omega)]; done) | (rw [if_pos (by omega)]; done) | (rw [if_neg (by omega)]; with_reducible rfl) | (rw [if_pos (by omega)]; with_reducible rfl)
  try simp only [List.getElem_toArray, List.getElem_cons_zero, List.getElem_cons_succ, Act.put, List.setIfInBounds_toArray, List.set_cons_zero, List.set_cons_succ]
  refine wpAnyH_take (i := 2) (v := ?_) rfl (by kernel_rfl) (by kernel_rfl) (by kernel_rfl) (fun _ _ _ h => h) (Or.inl ⟨by rfl, ?_⟩) (by assumption) ?_
  rotate_left 1
  · intro w' hSw
    go_simp
    all_goals first | with_reducible rfl | (rw [if_neg (by omega)]; done) | (rw [if_pos (by omega)]; done) | (rw [if_neg (by omega)]; with_reducible rfl) | (rw [if_pos (by omega)]; with_reducible rfl)
  try simp only [List.getElem_toArray, List.getElem_cons_zero, List.getElem_cons_succ, Act.put, List.setIfInBounds_toArray, List.set_cons_zero, List.set_cons_succ]
  refine wpAnyH_take (i := 3) (v := ?_) rfl (by kernel_rfl) (by kernel_rfl) (by kernel_rfl) (fun _ _ _ h => h) (Or.inl ⟨by rfl, ?_⟩) (by assumption) ?_
  rotate_left 1
  · intro w' hSw
    go_simp
    all_goals first | with_reducible rfl | (rw [if_neg (by omega)]; done) | (rw [if_pos (by omega)]; done) | (rw [if_neg (by omega)]; with_reducible rfl) | (rw [if_pos (by omega)]; with_reducible rfl)
  try simp only [List.getElem_toArray, List.getElem_cons_zero, List.getElem_cons_succ, Act.put, List.setIfInBounds_toArray, List.set_cons_zero, List.set_cons_succ]
  refine wpAnyH_take (i := 4) (v := ?_) rfl (by kernel_rfl) (by kernel_rfl) (by kernel_rfl) (fun _ _ _ h => h) (Or.inl ⟨by rfl, ?_⟩) (by assumption) ?_
  rotate_left 1
  · intro w' hSw
    go_simp
    all_goals first | with_reducible rfl | (rw [if_neg (by omega)]; done) | (rw [if_pos (by omega)]; done) | (rw [if_neg (by omega)]; with_reducible rfl) | (rw [if_pos (by omega)]; with_reducible rfl)
  try simp only [List.getElem_toArray, List.getElem_cons_zero, List.getElem_cons_succ, Act.put, List.setIfInBounds_toArray, List.set_cons_zero, List.set_cons_succ]
  refine wpAnyH_take (i := 5) (v := ?_) rfl (by kernel_rfl) (by kernel_rfl) (by kernel_rfl) (fun _ _ _ h => h) (Or.inl ⟨by rfl, ?_⟩) (by assumption) ?_
  rotate_left 1
  · intro w' hSw
    go_simp
    all_goals first | with_reducible rfl | (rw [if_neg (by omega)]; done) | (rw [if_pos (by omega)]; done) | (rw [if_neg (by omega)]; with_reducible rfl) | (rw [if_pos (by omega)]; with_reducible rfl)
  try simp only [List.getElem_toArray, List.getElem_cons_zero, List.getElem_cons_succ, Act.put, List.setIfInBounds_toArray, List.set_cons_zero, List.set_cons_succ]
  refine wpAnyH_take (i := 6) (v := ?_) rfl (by kernel_rfl) (by kernel_rfl) (by kernel_rfl) (fun _ _ _ h => h) (Or.inl ⟨by rfl, ?_⟩) (by assumption) ?_
  rotate_left 1
  · intro w' hSw
    go_simp
    all_goals first | with_reducible rfl | (rw [if_neg (by omega)]; done) | (rw [if_pos (by omega)]; done) | (rw [if_neg (by omega)]; with_reducible rfl) | (rw [if_pos (by omega)]; with_reducible rfl)
  try simp only [List.getElem_toArray, List.getElem_cons_zero, List.getElem_cons_succ, Act.put, List.setIfInBounds_toArray, List.set_cons_zero, List.set_cons_succ]
  refine wpAnyH_take (i := 7) (v := ?_) rfl (by kernel_rfl) (by kernel_rfl) (by kernel_rfl) (fun _ _ _ h => h) (Or.inl ⟨by rfl, ?_⟩) (by assumption) ?_
  rotate_left 1
  · intro w' hSw
    go_simp
    all_goals first | with_reducible rfl | (rw [if_neg (by omega)]; done) | (rw [if_pos (by omega)]; done) | (rw [if_neg (by omega)]; with_reducible rfl) | (rw [if_pos (by omega)]; with_reducible rfl)
  try simp only [List.getElem_toArray, List.getElem_cons_zero, List.getElem_cons_succ, Act.put, List.setIfInBounds_toArray, List.set_cons_zero, List.set_cons_succ]
  refine wpAnyH_take (i := 8) (v := ?_) rfl (by kernel_rfl) (by kernel_rfl) (by kernel_rfl) (fun _ _ _ h => h) (Or.inl ⟨by rfl, ?_⟩) (by assumption) ?_
  rotate_left 1
  · intro w' hSw
    go_simp
    all_goals first | with_reducible rfl | (rw [if_neg (by omega)]; done) | (rw [if_pos (by omega)]; done) | (rw [if_neg (by omega)]; with_reducible rfl) | (rw [if_pos (by omega)]; with_reducible rfl)
  try simp only [List.getElem_toArray, List.getElem_cons_zero, List.getElem_cons_succ, Act.put, List.setIfInBounds_toArray, List.set_cons_zero, List.set_cons_succ]
  refine wpAnyH_ready (rs := [9]) (by kernel_rfl) (by simp) ?_
  refine AllReadyH.cons rfl (fun K hK => ?_) AllReadyH.nil
  refine step_app_bare rfl _ _ 23 rfl 103 _ 3 32 Try.underlying23 info_vn rfl (by decide) _ rfl _ (k - i) _ _ rfl (by rw [flat_len vc_len, HLN.out]) HRC.out (vcs_one _) (by unfold maxLen; omega) (by omega) ?_
  intro A9 c9 w9 hr9 hm9 ht9
  have R9 := Lib.hid hr9
  have T9 := Lib.hid ht9
  have C9 := Lib.hid hm9
  clear hr9 ht9 hm9
  refine hK.out _ _ trivial (fun hHeld => ?_)
  clear hK K
  try simp only [List.getElem_toArray, List.getElem_cons_zero, List.getElem_cons_succ, Act.put, List.setIfInBounds_toArray, List.set_cons_zero, List.set_cons_succ]
  refine wpAnyH_take (i := 10) (v := ?_) rfl (by kernel_rfl) (by kernel_rfl) (by kernel_rfl) (fun _ _ _ h => h) (Or.inl ⟨by rfl, ?_⟩) (by assumption) ?_
  rotate_left 1
  · intro w' hSw
    go_simp
    all_goals first | with_reducible rfl | (rw [if_neg (by omega)]; done) | (rw [if_pos (by omega)]; done) | (rw [if_neg (by omega)]; with_reducible rfl) | (rw [if_pos (by omega)]; with_reducible rfl)
  try simp only [List.getElem_toArray, List.getElem_cons_zero, List.getElem_cons_succ, Act.put, List.setIfInBounds_toArray, List.set_cons_zero, List.set_cons_succ]
  refine wpAnyH_done (by kernel_rfl) ?_ _
  refine NoPanic.normal ?_
  generalize (if c = i then A else Option.map (fun x => x.add (i * 3)) A) = AX at *
  go_wp2_with fail
  go_ret
  refine ⟨_, rfl, ?_, fun A n c e => by injection e with e1 e2 e3; subst e1 e2 e3; exact C9.out, (Turn.drew (Turn.refl _ _)).trans T9.out⟩
  have h9 := vr_of (c := c9) R9.out (by rw [HLN.out]; omega)
  rw [HLN.out] at h9
  exact h9
theorem cut13 (L : List Vn) (v : Value) (i k : Nat) (w : World) (h : Vr w v L) (hcv : Cv v) (hik : i ≤ k) (hkn : k ≤ L.length) (hb : L.length ≤ 1000000000) :
    Calls Try.prog 137 #[v, .int .i64 i, .int .i64 k] w fun e w' => ∃ v', e = .returned v' ∧ Vr w' v' ((L.drop i).take (k - i)) ∧ Cv v' ∧ Turn (fun _ => False) w w' :=
  (cut13n L v i k w h hcv hik hkn hb).mono fun e w' ⟨v', h1, h2, h3, h4⟩ => ⟨v', h1, h2, h3.cv, h4⟩
end Go.Proofs.Ytobddfpdijmgiaa
