/- Layer 16: spans and keys, plain. -/
import Derived.Test.YtjkfgbmlhglnfaaSpI
import Derived.Test.YtjkfgbmlhglnfaaSpN
import Derived.Laws.Cover1
import Derived.Lib.MinMaxS
namespace Go.Proofs.Ytjkfgbmlhglnfaa
open Go.RowKit Go.Shelf
set_option linter.unusedVariables false
set_option linter.unusedSimpArgs false
set_option maxRecDepth 100000

def em16 (b : ByteArray) : Bool := b.toList.isEmpty
theorem em_nil {b : ByteArray} (h : em16 b = true) : b.data.toList = [] := by
  unfold em16 at h
  rw [ByteArray.toList_eq] at h
  exact List.isEmpty_iff.1 h
theorem em_lt {a b : ByteArray} (h : em16 b = true) : lt14 a b = false := by
  unfold lt14
  rw [em_nil h]
  cases a.data.toList with
  | nil => rfl
  | cons c l => rfl
theorem em_eq {a b : ByteArray} (h : em16 a = true) (h2 : em16 b = true) : a = b := ba_ext (by rw [em_nil h, em_nil h2])
theorem em_new : em16 ⟨#[]⟩ = true := by unfold em16; rw [ByteArray.toList_eq]; rfl
theorem win_def (key a b : ByteArray) : win key a b = (!lt14 key a && (em16 b || lt14 key b)) := rfl
def some16 (s : Pq2) : Bool := em16 s.v || lt14 s.k s.v
def apt16 (s n : Pq2) : Bool := !em16 s.v && lt14 s.v n.k
def mn16 (a b : ByteArray) : ByteArray := if lt14 b a then b else a
def fur16 (a b : ByteArray) : ByteArray := if em16 a || em16 b then ⟨#[]⟩ else if lt14 a b then b else a
def mrg16 (s x : Pq2) : Pq2 := ⟨mn16 s.k x.k, fur16 s.v x.v⟩
def spd16 (S : List Pq2) (key : ByteArray) : Bool := S.any (fun s => win key s.k s.v)
/-- Spans with one more. -/
def tog16 : List Pq2 → Pq2 → List Pq2
  | [], s => [s]
  | x :: l, s => if apt16 x s then x :: tog16 l s else if apt16 s x then s :: x :: l else tog16 l (mrg16 s x)
def Spo16 (S : List Pq2) : Prop := (∀ s ∈ S, some16 s = true) ∧ S.Pairwise (fun a b => apt16 a b = true)
theorem apt_trans {a b c : Pq2} (hb : some16 b = true) (h1 : apt16 a b = true) (h2 : apt16 b c = true) : apt16 a c = true := by
  unfold apt16 some16 at *
  have t1 := @lt14_trans a.v b.k b.v
  have t2 := @lt14_trans a.v b.v c.k
  grind
theorem apt_mrg {x s y : Pq2} (h1 : apt16 x s = true) (h2 : apt16 x y = true) : apt16 x (mrg16 s y) = true := by
  unfold apt16 mrg16 mn16 at *
  grind
theorem win_mrg {s x : Pq2} (key : ByteArray) (hs : some16 s = true) (hx : some16 x = true) (h1 : apt16 x s = false) (h2 : apt16 s x = false) : win key (mrg16 s x).k (mrg16 s x).v = (win key s.k s.v || win key x.k x.v) := by
  unfold apt16 some16 at *
  simp only [mrg16, win_def, mn16, fur16]
  have e := em_new
  have tr := @lt14_trans
  have eq := @lt14_eq
  have ir := @lt14_self
  generalize s.k = a at *
  generalize s.v = b at *
  generalize x.k = c at *
  generalize x.v = d at *
  grind
theorem some_mrg {s x : Pq2} (hs : some16 s = true) (hx : some16 x = true) : some16 (mrg16 s x) = true := by
  unfold some16 at *
  simp only [mrg16, mn16, fur16]
  have e := em_new
  have tr := @lt14_trans
  have eq := @lt14_eq
  have ir := @lt14_self
  generalize s.k = a at *
  generalize s.v = b at *
  generalize x.k = c at *
  generalize x.v = d at *
  grind
theorem spd_tog : ∀ (S : List Pq2) (s : Pq2) (key : ByteArray), (∀ x ∈ S, some16 x = true) → some16 s = true → spd16 (tog16 S s) key = (spd16 S key || win key s.k s.v)
  | [], s, key, _, _ => by simp [tog16, spd16]
  | x :: l, s, key, hS, hs => by
    have hx := hS x (by simp)
    have hl : ∀ y ∈ l, some16 y = true := fun y hy => hS y (by simp [hy])
    unfold tog16
    cases h1 : apt16 x s with
    | true =>
      rw [if_pos rfl]
      have ih := spd_tog l s key hl hs
      unfold spd16 at ih ⊢
      rw [List.any_cons, ih, List.any_cons, Bool.or_assoc]
    | false =>
      rw [if_neg (by decide)]
      cases h2 : apt16 s x with
      | true =>
        rw [if_pos rfl]
        unfold spd16
        simp only [List.any_cons]
        rw [Bool.or_comm]
      | false =>
        rw [if_neg (by decide), spd_tog l _ key hl (some_mrg hs hx), win_mrg key hs hx h1 h2]
        unfold spd16
        rw [List.any_cons]
        generalize win key s.k s.v = a
        generalize win key x.k x.v = b
        generalize (l.any fun s => win key s.k s.v) = c
        cases a <;> cases b <;> cases c <;> rfl
theorem Spo16.tail {x : Pq2} {l : List Pq2} (h : Spo16 (x :: l)) : Spo16 l := ⟨fun y hy => h.1 y (by simp [hy]), (List.pairwise_cons.1 h.2).2⟩
/-- What a span that stands behind all of x grows to stands behind x, too. -/
theorem tog_behind : ∀ (l : List Pq2) (x s : Pq2), Spo16 (x :: l) → apt16 x s = true → ∀ y ∈ tog16 l s, apt16 x y = true
  | [], x, s, _, h, y, hy => by simp [tog16] at hy; rw [hy]; exact h
  | z :: l, x, s, hS, h, y, hy => by
    have hxz : apt16 x z = true := (List.pairwise_cons.1 hS.2).1 z (by simp)
    have hxl : Spo16 (x :: l) := ⟨fun y hy => hS.1 y (by simp at hy ⊢; rcases hy with h | h <;> simp [h]), List.pairwise_cons.2 ⟨fun y hy => (List.pairwise_cons.1 hS.2).1 y (by simp [hy]), (List.pairwise_cons.1 (List.pairwise_cons.1 hS.2).2).2⟩⟩
    unfold tog16 at hy
    split at hy
    · rcases List.mem_cons.1 hy with rfl | hy
      · exact hxz
      · exact tog_behind l x s hxl h y hy
    · split at hy
      · rcases List.mem_cons.1 hy with rfl | hy
        · exact h
        · exact (List.pairwise_cons.1 hS.2).1 y hy
      · exact tog_behind l x _ hxl (apt_mrg h hxz) y hy
theorem tog_spo : ∀ (S : List Pq2) (s : Pq2), Spo16 S → some16 s = true → Spo16 (tog16 S s)
  | [], s, _, hs => ⟨fun x hx => by simp [tog16] at hx; rw [hx]; exact hs, by simp [tog16]⟩
  | x :: l, s, hS, hs => by
    have hx := hS.1 x (by simp)
    unfold tog16
    cases h1 : apt16 x s with
    | true =>
      rw [if_pos rfl]
      have ih := tog_spo l s hS.tail hs
      refine ⟨fun y hy => ?_, List.pairwise_cons.2 ⟨fun y hy => tog_behind l x s hS h1 y hy, ih.2⟩⟩
      rcases List.mem_cons.1 hy with rfl | hy
      · exact hx
      · exact ih.1 y hy
    | false =>
      rw [if_neg (by decide)]
      cases h2 : apt16 s x with
      | true =>
        rw [if_pos rfl]
        refine ⟨fun y hy => ?_, List.pairwise_cons.2 ⟨fun y hy => ?_, hS.2⟩⟩
        · rcases List.mem_cons.1 hy with rfl | hy
          · exact hs
          · exact hS.1 y hy
        · rcases List.mem_cons.1 hy with rfl | hy
          · exact h2
          · exact apt_trans hx h2 ((List.pairwise_cons.1 hS.2).1 y hy)
      | false =>
        rw [if_neg (by decide)]
        exact tog_spo l _ hS.tail (some_mrg hs hx)
theorem win_self {s : Pq2} (h : some16 s = true) : win s.k s.k s.v = true := by
  unfold some16 at h
  rw [win_def, lt14_self]
  simpa using h
/-- Right spans are told by the keys that they have. -/
theorem spo_head {x y : Pq2} {l m : List Pq2} (hS : Spo16 (x :: l)) (hT : Spo16 (y :: m)) (h : ∀ key, spd16 (x :: l) key = spd16 (y :: m) key) : lt14 x.k y.k = false := by
  cases hl : lt14 x.k y.k with
  | false => rfl
  | true =>
    have hx := hS.1 x (by simp)
    have h1 : spd16 (x :: l) x.k = true := List.any_eq_true.2 ⟨x, by simp, win_self hx⟩
    rw [h] at h1
    obtain ⟨z, hz, hw⟩ := List.any_eq_true.1 h1
    rw [win_def] at hw
    have hzk : lt14 x.k z.k = false := by cases h : lt14 x.k z.k <;> simp [h] at hw ⊢
    rcases List.mem_cons.1 hz with rfl | hz
    · rw [hl] at hzk; cases hzk
    · have ha := (List.pairwise_cons.1 hT.2).1 z hz
      have hy := hT.1 y (by simp)
      unfold apt16 at ha
      unfold some16 at hy
      have t1 := @lt14_trans x.k y.k y.v
      have t2 := @lt14_trans x.k y.v z.k
      grind
theorem spo_end {x y : Pq2} {l m : List Pq2} (hS : Spo16 (x :: l)) (hT : Spo16 (y :: m)) (hk : x.k = y.k) (h : ∀ key, spd16 (x :: l) key = spd16 (y :: m) key) : (em16 y.v || lt14 x.v y.v) = true → em16 x.v = true := by
  intro h1
  cases hx : em16 x.v with
  | true => rfl
  | false =>
    have hsx := hS.1 x (by simp)
    have hw : win x.v y.k y.v = true := by
      rw [win_def, ← hk]
      unfold some16 at hsx
      have t1 := @lt14_trans x.k x.v x.k
      have ir := lt14_self x.k
      cases h2 : lt14 x.v x.k with
      | false => simpa [hx] using h1
      | true => grind
    have h3 : spd16 (y :: m) x.v = true := List.any_eq_true.2 ⟨y, by simp, hw⟩
    rw [← h] at h3
    obtain ⟨z, hz, hwz⟩ := List.any_eq_true.1 h3
    rw [win_def] at hwz
    rcases List.mem_cons.1 hz with rfl | hz
    · rw [hx, lt14_self] at hwz; simp at hwz
    · have ha := (List.pairwise_cons.1 hS.2).1 z hz
      unfold apt16 at ha
      simp [hx] at ha
      rw [ha] at hwz
      simp at hwz
theorem Spo16.win_tail {x : Pq2} {l : List Pq2} (hS : Spo16 (x :: l)) (key : ByteArray) : spd16 l key = (spd16 (x :: l) key && !win key x.k x.v) := by
  unfold spd16
  rw [List.any_cons]
  cases hw : win key x.k x.v with
  | false => simp
  | true =>
    simp only [Bool.true_or, Bool.not_true, Bool.and_false]
    rw [List.any_eq_false]
    intro z hz hwz
    have ha := (List.pairwise_cons.1 hS.2).1 z hz
    rw [win_def] at hw hwz
    unfold apt16 at ha
    have t1 := @lt14_trans key x.v z.k
    grind
theorem spo_same : ∀ (S T : List Pq2), Spo16 S → Spo16 T → (∀ key, spd16 S key = spd16 T key) → S = T
  | [], [], _, _, _ => rfl
  | [], y :: m, _, hT, h => by
    have h1 : spd16 (y :: m) y.k = true := List.any_eq_true.2 ⟨y, by simp, win_self (hT.1 y (by simp))⟩
    rw [← h] at h1
    simp [spd16] at h1
  | x :: l, [], hS, _, h => by
    have h1 : spd16 (x :: l) x.k = true := List.any_eq_true.2 ⟨x, by simp, win_self (hS.1 x (by simp))⟩
    rw [h] at h1
    simp [spd16] at h1
  | x :: l, y :: m, hS, hT, h => by
    have hk := lt14_eq (spo_head hS hT h) (spo_head hT hS (fun k => (h k).symm))
    have e1 := spo_end hS hT hk h
    have e2 := spo_end hT hS hk.symm (fun k => (h k).symm)
    have hv : x.v = y.v := by
      have q1 := @em_eq x.v y.v
      have q2 := @lt14_eq x.v y.v
      cases ex : em16 x.v with
      | true => exact q1 ex (e2 (by simp [ex]))
      | false =>
        cases ey : em16 y.v with
        | true => rw [e1 (by simp [ey])] at ex; cases ex
        | false =>
          refine q2 ?_ ?_
          · cases hl : lt14 x.v y.v with
            | false => rfl
            | true => rw [e1 (by simp [hl])] at ex; cases ex
          · cases hl : lt14 y.v x.v with
            | false => rfl
            | true => rw [e2 (by simp [hl])] at ey; cases ey
    have hxy : x = y := by cases x; cases y; simp_all
    subst hxy
    rw [spo_same l m hS.tail hT.tail (fun key => by rw [hS.win_tail, hT.win_tail, h])]
/-- Keys that rise. -/
def Kup (K : List ByteArray) : Prop := K.Pairwise (fun a b => lt14 a b = true)
/-- A key among keys that rise. -/
def insK16 (key : ByteArray) : List ByteArray → List ByteArray
  | [] => [key]
  | k :: l => if lt14 k key then k :: insK16 key l else if lt14 key k then key :: k :: l else k :: l
theorem mem_insK16 (key x : ByteArray) : ∀ (K : List ByteArray), x ∈ insK16 key K ↔ x = key ∨ x ∈ K
  | [] => by simp [insK16]
  | k :: l => by
    unfold insK16
    split
    · rw [List.mem_cons, mem_insK16 key x l, List.mem_cons]
      constructor
      · rintro (h | h | h) <;> simp [h]
      · rintro (h | h | h) <;> simp [h]
    · split
      · simp
      · rename_i h1 h2
        have := @lt14_eq k key (by simpa using h1) (by simpa using h2)
        subst this
        simp
theorem insK16_up (key : ByteArray) : ∀ (K : List ByteArray), Kup K → Kup (insK16 key K)
  | [], _ => by simp [insK16, Kup]
  | k :: l, h => by
    have h' := List.pairwise_cons.1 h
    unfold insK16
    split
    · rename_i hk
      refine List.pairwise_cons.2 ⟨fun y hy => ?_, insK16_up key l h'.2⟩
      rcases (mem_insK16 key y l).1 hy with rfl | hy
      · exact hk
      · exact h'.1 y hy
    · split
      · rename_i hk
        refine List.pairwise_cons.2 ⟨fun y hy => ?_, h⟩
        rcases List.mem_cons.1 hy with rfl | hy
        · exact hk
        · exact lt14_trans hk (h'.1 y hy)
      · exact h
theorem kup_same : ∀ (K M : List ByteArray), Kup K → Kup M → (∀ x, x ∈ K ↔ x ∈ M) → K = M
  | [], [], _, _, _ => rfl
  | [], y :: m, _, _, h => by have := (h y).2 (by simp); simp at this
  | x :: l, [], _, _, h => by have := (h x).1 (by simp); simp at this
  | x :: l, y :: m, hK, hM, h => by
    have hK' := List.pairwise_cons.1 hK
    have hM' := List.pairwise_cons.1 hM
    have e : x = y := by
      rcases List.mem_cons.1 ((h x).1 (by simp)) with e | h1
      · exact e
      · rcases List.mem_cons.1 ((h y).2 (by simp)) with e | h2
        · exact e.symm
        · have := lt14_trans (hM'.1 x h1) (hK'.1 y h2)
          rw [lt14_self] at this
          cases this
    subst e
    rw [kup_same l m hK'.2 hM'.2 (fun z => ?_)]
    constructor
    · intro hz
      rcases List.mem_cons.1 ((h z).1 (by simp [hz])) with rfl | h2
      · have := hK'.1 z hz; rw [lt14_self] at this; cases this
      · exact h2
    · intro hz
      rcases List.mem_cons.1 ((h z).2 (by simp [hz])) with rfl | h2
      · have := hM'.1 z hz; rw [lt14_self] at this; cases this
      · exact h2
end Go.Proofs.Ytjkfgbmlhglnfaa
/- Layer 16: small calls of reads; closures. -/
namespace Go.Proofs.Ytjkfgbmlhglnfaa
open Go.RowKit Go.Shelf
set_option linter.unusedVariables false
set_option linter.unusedSimpArgs false
set_option maxRecDepth 100000
attribute [local go_sem] Oper.semAt_some

theorem lt_tl (a b : ByteArray) : Op.bytesLess a.toList b.toList = lt14 a b := by rw [ByteArray.toList_eq, ByteArray.toList_eq]; rfl
theorem maxS_16 (a b : ByteArray) : Go.Lib.maxS a b = if lt14 a b then b else a := by
  unfold Go.Lib.maxS lt14
  rw [bytesLess_eq]
  by_cases h : a.data.toList < b.data.toList <;> simp [h]
theorem minS_16 (a b : ByteArray) : Go.Lib.minS a b = mn16 a b := by
  unfold Go.Lib.minS mn16
  by_cases h : lt14 b a = true
  · rw [if_pos h]
    refine if_neg ?_
    rintro (h2 | h2)
    · have h3 : lt14 a b = true := by unfold lt14; rw [bytesLess_eq]; simpa using h2
      have := lt14_trans h h3
      rw [lt14_self] at this
      cases this
    · rw [ba_ext h2, lt14_self] at h
      cases h
  · rw [if_neg h]
    refine if_pos ?_
    cases h2 : lt14 a b with
    | true =>
      left
      unfold lt14 at h2
      rw [bytesLess_eq] at h2
      simpa using h2
    | false => right; rw [lt14_eq h2 (by simpa using h)]
theorem has_16 (s : Pq2) (key : ByteArray) (w : World) :
    Calls Try.prog 111 #[.agg #[.string s.k, .string s.v], .string key] w fun e w' => e = .returned (.bool (win key s.k s.v)) ∧ Turn (fun _ => False) w w' := by
  obtain ⟨a, b⟩ := s
  simp only [win_def]
  have g1 := lt_tl key a
  have g2 := lt_tl key b
  have g3 : b.toList.isEmpty = em16 b := rfl
  generalize lt14 key a = c1 at *
  generalize lt14 key b = c2 at *
  generalize em16 b = c3 at *
  cases c1 <;> cases c2 <;> cases c3 <;>
  (go_enter Try.func111, Try.ntmps111
   go_wp2_with fail
   go_ret
   exact ⟨rfl, (Turn.refl _ _).alloc _⟩)
theorem some_16 (s : Pq2) (w : World) :
    Calls Try.prog 59 #[.agg #[.string s.k, .string s.v]] w fun e w' => e = .returned (.bool (some16 s)) ∧ Turn (fun _ => False) w w' := by
  obtain ⟨a, b⟩ := s
  unfold some16
  simp only
  have g1 := lt_tl a b
  have g3 : b.toList.isEmpty = em16 b := rfl
  generalize lt14 a b = c1 at *
  generalize em16 b = c3 at *
  cases c1 <;> cases c3 <;>
  (go_enter Try.func59, Try.ntmps59
   go_wp2_with fail
   go_ret
   exact ⟨rfl, (Turn.refl _ _).alloc _⟩)
theorem apart_16 (s x : Pq2) (w : World) :
    Calls Try.prog 66 #[.agg #[.string s.k, .string s.v], .agg #[.string x.k, .string x.v]] w fun e w' => e = .returned (.bool (apt16 s x)) ∧ Turn (fun _ => False) w w' := by
  obtain ⟨a, b⟩ := s
  obtain ⟨c, d⟩ := x
  unfold apt16
  simp only
  have g1 := lt_tl b c
  have g3 : b.toList.isEmpty = em16 b := rfl
  generalize lt14 b c = c1 at *
  generalize em16 b = c3 at *
  cases c1 <;> cases c3 <;>
  (go_enter Try.func66, Try.ntmps66
   go_wp2_with fail
   go_ret
   exact ⟨rfl, ((Turn.refl _ _).alloc _).alloc _⟩)
theorem further_16 (a b : ByteArray) (w : World) :
    Calls Try.prog 107 #[.string a, .string b] w fun e w' => e = .returned (.string (fur16 a b)) ∧ w = w' := by
  unfold fur16
  have hm := Go.Lib.run_max_strs (P := Try.prog) w #[9, 9] 9 a b
  rw [maxS_16] at hm
  have g1 := lt_tl a b
  have g2 : a.toList.isEmpty = em16 a := rfl
  have g3 : b.toList.isEmpty = em16 b := rfl
  generalize lt14 a b = c1 at *
  generalize em16 a = c2 at *
  generalize em16 b = c3 at *
  cases c1 <;> cases c2 <;> cases c3 <;>
  (go_enter Try.func107, Try.ntmps107
   go_wp2_with fail
   go_ret
   exact ⟨rfl, rfl⟩)
theorem within11_16 (s : Pq2) (key : ByteArray) (kb : Nat) (w : World) (hk : Blk w kb 9 [.string key]) :
    Calls Try.prog 110 #[.agg #[.string s.k, .string s.v], .pointer (some ⟨kb, 0, none⟩)] w fun e w' => e = .returned (.bool (win key s.k s.v)) ∧ Turn (fun _ => False) w w' := by
  have hlt := hk.lt
  have hc := (hk.alloc (.cells #[.string s.k, .string s.v] 59)).cell 0
  go_enter Try.func110, Try.ntmps110
  go_wp2_with (go_at_call 111; refine (has_16 s key _).mono ?_; rintro e w2 ⟨rfl, ht2⟩)
  go_ret
  exact ⟨rfl, ((Turn.refl _ _).alloc _).trans ht2⟩
set_option maxHeartbeats 4000000 in
theorem idxS_16 (S : List Pq2) (u : Value) (key : ByteArray) (kb : Nat) (w : World) (h : Px w u S) (hk : Blk w kb 9 [.string key]) :
    Calls Try.prog 118 #[u, .func (.func 110) #[] #[.pointer (some ⟨kb, 0, none⟩)]] w fun e w' => ∃ i : Int, e = .returned (.int .i64 i) ∧ decide (0 ≤ i) = spd16 S key ∧ Turn (fun _ => False) w w' := by
  obtain ⟨A, c, rfl, hl, hr⟩ := h
  obtain ⟨n, hn⟩ : ∃ n, S.length = n := ⟨_, rfl⟩
  have HN := Lib.hid hn
  have HR := Lib.hid hr
  have HK := Lib.hid hk
  rw [hn] at hl ⊢
  clear hn hr hk
  go_enter Try.func118, Try.ntmps118
  go_wp2_with fail
  go_loopw [5, 8] (fun _ v8 wr => ∃ i : Nat, i ≤ n ∧ v8 = .int .i64 i ∧ Hid (∀ (j : Nat) (y : Pq2), j < i → S[j]? = some y → win key y.k y.v = false) ∧ Turn (fun _ => False) w wr) (fun _ v8 _ => n - (intOf v8).toNat)
  case atStart => exact ⟨0, Nat.zero_le _, rfl, Lib.hid (fun j y hj => by omega), Turn.refl _ _⟩
  case round =>
    obtain ⟨i, hi, rfl, HNO, ht⟩ := hrel
    obtain ⟨wx, rfl⟩ : ∃ W, W = wr := ⟨_, rfl⟩
    have TT := Lib.hid ht
    by_cases hlt : i < n
    · have hl1 : (i : Int) < (n : Int) := by omega
      have hl0 : (0 : Int) ≤ (i : Int) := by omega
      have hq := wrap_of ((i : Int) + 1) (by omega) (by omega)
      obtain ⟨y, hy⟩ : ∃ y, S[i]? = some y := ⟨_, List.getElem?_eq_getElem (by rw [HN.out]; exact hlt)⟩
      have HY := Lib.hid hy
      obtain ⟨b, o, rfl, hb, hc⟩ := HR.out (by rw [flat_len pc2_len, HN.out]; omega)
      have hcx : ∀ k, wx.cell? ⟨b, k, none⟩ = w.cell? ⟨b, k, none⟩ := fun k => World.cell?_of_block (w := w) (a := ⟨b, k, none⟩) (ht.block b hb (fun h => h))
      have c0 := hc _ _ (flat_at pc2_len S i 0 y hy (by decide))
      have c1 := hc _ _ (flat_at pc2_len S i 1 y hy (by decide))
      rw [← hcx] at c0 c1
      have HFF := Lib.hid (fun W hW => within11_16 y key kb W hW)
      have HKX := Lib.hid (HK.out.turn ht (fun h => h))
      obtain ⟨yk, yv⟩ := y
      simp only [Nat.add_zero] at c0 c1 HFF
      rw [← Nat.add_assoc] at c1
      clear hy hb hc hcx ht
      cases hbg : win key yk yv with
      | true =>
        rw [hbg] at HFF
        have HBG : Hid (spd16 S key = true) := Lib.hid (List.any_eq_true.2 ⟨_, List.mem_of_getElem? HY.out, hbg⟩)
        clear hbg
        go_wp2_with (go_at_call 110; refine (HFF.out _ HKX.out).mono ?_; rintro e w2 ⟨rfl, ht2⟩; have T2 := Lib.hid (TT.out.trans ht2); clear ht2)
        go_ret
        exact ⟨_, rfl, by rw [HBG.out]; simp, T2.out⟩
      | false =>
        rw [hbg] at HFF
        have HN2 : Hid (∀ (j : Nat) (y : Pq2), j < i + 1 → S[j]? = some y → win key y.k y.v = false) := Lib.hid (fun j y hj hy => by
          by_cases h : j < i
          · exact HNO.out j y h hy
          · obtain rfl : j = i := by omega
            rw [HY.out] at hy
            cases hy
            exact hbg)
        clear hbg
        go_wp2_with (go_at_call 110; refine (HFF.out _ HKX.out).mono ?_; rintro e w2 ⟨rfl, ht2⟩; have T2 := Lib.hid (TT.out.trans ht2); clear ht2)
        go_roundw
        case rel => exact ⟨i + 1, by omega, by simp [hq], HN2, T2.out⟩
        case measure => simp [intOf, hq]; omega
    · obtain rfl : i = n := by omega
      have HE : Hid (spd16 S key = false) := Lib.hid (any_none_ (fun j y hj hy => HNO.out j y (by rw [← HN.out]; exact hj) hy))
      go_wp2_with fail
      go_ret
      exact ⟨_, rfl, by rw [HE.out]; simp, TT.out⟩
end Go.Proofs.Ytjkfgbmlhglnfaa
/- Layer 16: within; rows of texts asked by it. -/
namespace Go.Proofs.Ytjkfgbmlhglnfaa
open Go.RowKit Go.Shelf
set_option linter.unusedVariables false
set_option linter.unusedSimpArgs false
set_option maxRecDepth 100000
attribute [local go_sem] Oper.semAt_some

theorem csS_16 (S : List Pq2) (u : Value) (key : ByteArray) (kb : Nat) (w : World) (h : Px w u S) (hk : Blk w kb 9 [.string key]) :
    Calls Try.prog 75 #[u, .func (.func 110) #[] #[.pointer (some ⟨kb, 0, none⟩)]] w fun e w' => e = .returned (.bool (spd16 S key)) ∧ Turn (fun _ => False) w w' := by
  have HI := Lib.hid (idxS_16 S u key kb w h hk)
  obtain ⟨A, c, rfl, hl, hr⟩ := h
  go_enter Try.func75, Try.ntmps75
  go_wp2_with (go_at_call 118; refine HI.out.mono ?_; rintro e w2 ⟨i, rfl, hib, ht2⟩; have T2 := Lib.hid ht2; have HIB := Lib.hid hib; clear ht2 hib)
  go_ret
  exact ⟨by rw [← HIB.out]; rfl, T2.out⟩
/-- What a slice's box holds. -/
theorem within1_16 (S : List Pq2) (u : Value) (key : ByteArray) (lb : Nat) (w : World) (h : Px w u S) (hb : Blk w lb 44 [u]) :
    Calls Try.prog 109 #[.string key, .pointer (some ⟨lb, 0, none⟩)] w fun e w' => e = .returned (.bool (spd16 S key)) ∧ Turn (fun _ => False) w w' := by
  have HC := Lib.hid (csS_16 S u key w.heap.size (w.alloc (.cells #[.string key] 9)) (h.still ((Turn.refl _ _).alloc _)) (Blk.new _ _ _))
  obtain ⟨A, c, rfl, hl, hr⟩ := h
  have hc := (hb.alloc (.cells #[.string key] 9)).cell 0
  have hlt := hb.lt
  go_enter Try.func109, Try.ntmps109
  go_wp2_with (go_at_call 75; refine HC.out.mono ?_; rintro e w2 ⟨rfl, ht2⟩; have T2 := Lib.hid ht2; clear ht2)
  go_ret
  exact ⟨rfl, ((Turn.refl _ _).alloc _).trans T2.out⟩
theorem within_16 (A : Option Addr) (n c : Nat) (w : World) :
    Calls Try.prog 63 #[.slice A n c] w fun e w' => e = .returned (.func (.func 109) #[] #[.pointer (some ⟨w.heap.size, 0, none⟩)]) ∧ w' = w.alloc (.cells #[.slice A n c] 44) := by
  go_enter Try.func63, Try.ntmps63
  go_wp2_with fail
  go_ret
  exact ⟨rfl, rfl⟩
/-- Texts that a slice holds. -/
def Kx (w : World) (v : Value) (K : List ByteArray) : Prop := ∃ A c, v = .slice A K.length c ∧ K.length ≤ 9223372036854775807 ∧ Rc w A (K.map Value.string)
theorem Kx.still {w w' : World} {v : Value} {K : List ByteArray} (h : Kx w v K) (ht : Turn (fun _ => False) w w') : Kx w' v K := by
  obtain ⟨A, c, e, hl, hr⟩ := h
  exact ⟨A, c, e, hl, hr.still ht⟩
theorem Kr.kx {w : World} {v : Value} {K : List ByteArray} (h : Kr w v K) (hl : K.length ≤ 9223372036854775807) : Kx w v K := by
  obtain ⟨A, c, rfl⟩ := own_slice_ h
  exact ⟨A, c, rfl, hl, rc_own h⟩
theorem kx_nil (w : World) : Kx w (.slice none 0 0) [] := ⟨none, 0, rfl, by simp, fun h => by simp at h⟩
/-- Where a row's first text stands that a test takes. -/
def Fst (p : ByteArray → Bool) (K : List ByteArray) (i : Int) : Prop := (i = -1 ∧ ∀ (j : Nat) (k : ByteArray), K[j]? = some k → p k = false) ∨ ∃ (j : Nat) (k : ByteArray), i = (j : Int) ∧ K[j]? = some k ∧ p k = true ∧ ∀ (l : Nat) (y : ByteArray), l < j → K[l]? = some y → p y = false
theorem Fst.any {p : ByteArray → Bool} {K : List ByteArray} {i : Int} (h : Fst p K i) : decide (0 ≤ i) = K.any p := by
  rcases h with ⟨rfl, h⟩ | ⟨j, k, rfl, h1, h2, _⟩
  · rw [show K.any p = false from any_none_ (fun j y _ hy => h j y hy)]; rfl
  · rw [show K.any p = true from List.any_eq_true.2 ⟨k, List.mem_of_getElem? h1, h2⟩]; simp
set_option maxHeartbeats 4000000 in
theorem idxK_16 (S : List Pq2) (su : Value) (lb : Nat) (K : List ByteArray) (u : Value) (w : World) (h : Kx w u K) (hs : Px w su S) (hb : Blk w lb 44 [su]) :
    Calls Try.prog 108 #[u, .func (.func 109) #[] #[.pointer (some ⟨lb, 0, none⟩)]] w fun e w' => ∃ i : Int, e = .returned (.int .i64 i) ∧ Fst (spd16 S) K i ∧ Turn (fun _ => False) w w' := by
  obtain ⟨A, c, rfl, hl, hr⟩ := h
  obtain ⟨n, hn⟩ : ∃ n, K.length = n := ⟨_, rfl⟩
  have HN := Lib.hid hn
  have HR := Lib.hid hr
  have HFF := Lib.hid (fun key W (hW : Turn (fun _ => False) w W) => within1_16 S su key lb W (hs.still hW) (hb.turn hW (fun h => h)))
  rw [hn] at hl ⊢
  clear hn hr hs hb
  go_enter Try.func108, Try.ntmps108
  go_wp2_with fail
  go_loopw [5, 8] (fun _ v8 wr => ∃ i : Nat, i ≤ n ∧ v8 = .int .i64 i ∧ Hid (∀ (j : Nat) (y : ByteArray), j < i → K[j]? = some y → spd16 S y = false) ∧ Turn (fun _ => False) w wr) (fun _ v8 _ => n - (intOf v8).toNat)
  case atStart => exact ⟨0, Nat.zero_le _, rfl, Lib.hid (fun j y hj => by omega), Turn.refl _ _⟩
  case round =>
    obtain ⟨i, hi, rfl, HNO, ht⟩ := hrel
    obtain ⟨wx, rfl⟩ : ∃ W, W = wr := ⟨_, rfl⟩
    have TT := Lib.hid ht
    by_cases hlt : i < n
    · have hl1 : (i : Int) < (n : Int) := by omega
      have hl0 : (0 : Int) ≤ (i : Int) := by omega
      have hq := wrap_of ((i : Int) + 1) (by omega) (by omega)
      obtain ⟨y, hy⟩ : ∃ y, K[i]? = some y := ⟨_, List.getElem?_eq_getElem (by rw [HN.out]; exact hlt)⟩
      have HY := Lib.hid hy
      obtain ⟨b, o, rfl, hb, hc⟩ := HR.out (by rw [List.length_map, HN.out]; omega)
      have hcx : ∀ k, wx.cell? ⟨b, k, none⟩ = w.cell? ⟨b, k, none⟩ := fun k => World.cell?_of_block (w := w) (a := ⟨b, k, none⟩) (ht.block b hb (fun h => h))
      have c0 := hc i (.string y) (by rw [List.getElem?_map, hy]; rfl)
      rw [← hcx] at c0
      clear hy hb hc hcx ht
      cases hbg : spd16 S y with
      | true =>
        have HF := Lib.hid (fun W hW => HFF.out y W hW)
        rw [hbg] at HF
        have HBG := Lib.hid hbg
        clear hbg
        go_wp2_with (go_at_call 109; refine (HF.out _ TT.out).mono ?_; rintro e w2 ⟨rfl, ht2⟩; have T2 := Lib.hid (TT.out.trans ht2); clear ht2)
        go_ret
        exact ⟨_, rfl, Or.inr ⟨i, y, rfl, HY.out, HBG.out, fun l z hl hz => HNO.out l z hl hz⟩, T2.out⟩
      | false =>
        have HF := Lib.hid (fun W hW => HFF.out y W hW)
        rw [hbg] at HF
        have HN2 : Hid (∀ (j : Nat) (y : ByteArray), j < i + 1 → K[j]? = some y → spd16 S y = false) := Lib.hid (fun j z hj hz => by
          by_cases h : j < i
          · exact HNO.out j z h hz
          · obtain rfl : j = i := by omega
            rw [HY.out] at hz
            cases hz
            exact hbg)
        clear hbg
        go_wp2_with (go_at_call 109; refine (HF.out _ TT.out).mono ?_; rintro e w2 ⟨rfl, ht2⟩; have T2 := Lib.hid (TT.out.trans ht2); clear ht2)
        go_roundw
        case rel => exact ⟨i + 1, by omega, by simp [hq], HN2, T2.out⟩
        case measure => simp [intOf, hq]; omega
    · obtain rfl : i = n := by omega
      go_wp2_with fail
      go_ret
      exact ⟨_, rfl, Or.inl ⟨rfl, fun j k hk => HNO.out j k (by rw [← HN.out]; exact (List.getElem?_eq_some_iff.1 hk).1) hk⟩, TT.out⟩
theorem csK_16 (S : List Pq2) (su : Value) (lb : Nat) (K : List ByteArray) (u : Value) (w : World) (h : Kx w u K) (hs : Px w su S) (hb : Blk w lb 44 [su]) :
    Calls Try.prog 67 #[u, .func (.func 109) #[] #[.pointer (some ⟨lb, 0, none⟩)]] w fun e w' => e = .returned (.bool (K.any (spd16 S))) ∧ Turn (fun _ => False) w w' := by
  have HI := Lib.hid (idxK_16 S su lb K u w h hs hb)
  obtain ⟨A, c, rfl, hl, hr⟩ := h
  go_enter Try.func67, Try.ntmps67
  go_wp2_with (go_at_call 108; refine HI.out.mono ?_; rintro e w2 ⟨i, rfl, hib, ht2⟩; have T2 := Lib.hid ht2; have HIB := Lib.hid hib; clear ht2 hib)
  go_ret
  exact ⟨by rw [← HIB.out.any]; rfl, T2.out⟩
theorem bsearch16 (K : List ByteArray) (v : Value) (key : ByteArray) (w : World) (h : Kx w v K) (hr : risK K) (hb : K.length ≤ 1000000) :
    Calls Try.prog 54 #[v, .string key] w fun e w' => e = .returned (.tuple #[.int .i64 (plK K key : Nat), .bool (hasK K key)]) ∧ Turn (fun _ => False) w w' := by
  obtain ⟨A, c, rfl, hl, hrc⟩ := h
  rcases Nat.eq_zero_or_pos K.length with h0 | h0
  · obtain rfl := List.eq_nil_of_length_eq_zero h0
    refine (Any2.slices_BinarySearch_string_empty lays26 A c key w).mono ?_
    rintro e w' ⟨rfl, rfl⟩
    exact ⟨rfl, Turn.refl _ _⟩
  · obtain ⟨g, o, rfl, _, hc⟩ := hrc (by simpa using h0)
    refine (Any2.slices_BinarySearch_string lays26 g o K.length c (fun t => K.getD t key) key w (by omega) (fun j hj => ?_)).mono ?_
    · exact hc j _ (by rw [List.getElem?_map, List.getElem?_eq_getElem hj, List.getD_eq_getElem?_getD, List.getElem?_eq_getElem hj]; rfl)
    · rintro e w' ⟨rfl, q, rfl⟩
      rw [bs_spec14 K key hr]
      refine ⟨?_, (Turn.refl _ _).drewN q⟩
      unfold hasK
      have hp := plK_le K key
      refine congrArg (fun b => Ending.returned (.tuple #[.int .i64 (plK K key : Nat), .bool b])) (decide_eq_decide.2 ?_)
      constructor
      · rintro ⟨h6, h7⟩
        rw [List.getD_eq_getElem?_getD, List.getElem?_eq_getElem h6] at h7
        rw [List.getElem?_eq_getElem h6]
        exact congrArg some h7
      · intro h6
        have h7 : plK K key < K.length := by
          rcases Nat.lt_or_ge (plK K key) K.length with h | h
          · exact h
          · rw [List.getElem?_eq_none h] at h6; cases h6
        exact ⟨h7, by rw [List.getD_eq_getElem?_getD, h6]; rfl⟩
theorem hasK_mem {K : List ByteArray} {key : ByteArray} (hr : risK K) : hasK K key = true ↔ key ∈ K := by
  unfold hasK
  rw [decide_eq_true_eq]
  constructor
  · exact List.mem_of_getElem?
  · intro hm
    obtain ⟨j, hj⟩ := List.getElem?_of_mem hm
    have hl := (List.getElem?_eq_some_iff.1 hj).1
    rcases Nat.lt_trichotomy j (plK K key) with h | h | h
    · have := plK_below hj h
      rw [lt14_self] at this
      cases this
    · rw [← h]; exact hj
    · obtain ⟨x, hx⟩ : ∃ x, K[plK K key]? = some x := ⟨_, List.getElem?_eq_getElem (by omega)⟩
      have h1 := plK_above hr hx (Nat.le_refl _)
      have h2 : lt14 x key = true := by
        have := List.pairwise_iff_getElem.1 hr (plK K key) j (by omega) hl h
        rw [List.getElem?_eq_getElem (by omega)] at hx
        rw [List.getElem?_eq_getElem hl] at hj
        cases hx; cases hj
        exact this
      rw [h1] at h2
      cases h2
end Go.Proofs.Ytjkfgbmlhglnfaa
