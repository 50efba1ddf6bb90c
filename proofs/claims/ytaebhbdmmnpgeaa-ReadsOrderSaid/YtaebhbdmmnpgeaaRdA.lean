/- Layer 16: spans and keys, plain. -/
import Derived.Test.YtaebhbdmmnpgeaaSpI
namespace Go.Proofs.Ytaebhbdmmnpgeaa
open Go.RowKit Go.Shelf
set_option linter.unusedVariables false
set_option linter.unusedSimpArgs false
set_option maxRecDepth 100000

def em16 (b : ByteArray) : Bool := b.toList.isEmpty
theorem em_nil {b : ByteArray} (h : em16 b = true) : b.data.toList = [] := by
  unfold em16 at h
  rw [ByteArray.toList_eq] at h
  exact List.isEmpty_iff.1 h
theorem em_lt {a b : ByteArray} (h : em16 b = true) : lt14 a b = false := by
  unfold lt14
  rw [em_nil h]
  cases a.data.toList with
  | nil => rfl
  | cons c l => rfl
theorem em_eq {a b : ByteArray} (h : em16 a = true) (h2 : em16 b = true) : a = b := ba_ext (by rw [em_nil h, em_nil h2])
theorem em_new : em16 ⟨#[]⟩ = true := by unfold em16; rw [ByteArray.toList_eq]; rfl
theorem win_def (key a b : ByteArray) : win key a b = (!lt14 key a && (em16 b || lt14 key b)) := rfl
def some16 (s : Pq2) : Bool := em16 s.v || lt14 s.k s.v
def apt16 (s n : Pq2) : Bool := !em16 s.v && lt14 s.v n.k
def mn16 (a b : ByteArray) : ByteArray := if lt14 b a then b else a
def fur16 (a b : ByteArray) : ByteArray := if em16 a || em16 b then ⟨#[]⟩ else if lt14 a b then b else a
def mrg16 (s x : Pq2) : Pq2 := ⟨mn16 s.k x.k, fur16 s.v x.v⟩
def spd16 (S : List Pq2) (key : ByteArray) : Bool := S.any (fun s => win key s.k s.v)
/-- Spans with one more. -/
def tog16 : List Pq2 → Pq2 → List Pq2
  | [], s => [s]
  | x :: l, s => if apt16 x s then x :: tog16 l s else if apt16 s x then s :: x :: l else tog16 l (mrg16 s x)
def Spo16 (S : List Pq2) : Prop := (∀ s ∈ S, some16 s = true) ∧ S.Pairwise (fun a b => apt16 a b = true)
theorem apt_trans {a b c : Pq2} (hb : some16 b = true) (h1 : apt16 a b = true) (h2 : apt16 b c = true) : apt16 a c = true := by
  unfold apt16 some16 at *
  have t1 := @lt14_trans a.v b.k b.v
  have t2 := @lt14_trans a.v b.v c.k
  grind
theorem apt_mrg {x s y : Pq2} (h1 : apt16 x s = true) (h2 : apt16 x y = true) : apt16 x (mrg16 s y) = true := by
  unfold apt16 mrg16 mn16 at *
  grind
theorem win_mrg {s x : Pq2} (key : ByteArray) (hs : some16 s = true) (hx : some16 x = true) (h1 : apt16 x s = false) (h2 : apt16 s x = false) : win key (mrg16 s x).k (mrg16 s x).v = (win key s.k s.v || win key x.k x.v) := by
  unfold apt16 some16 at *
  simp only [mrg16, win_def, mn16, fur16]
  have e := em_new
  have tr := @lt14_trans
  have eq := @lt14_eq
  have ir := @lt14_self
  generalize s.k = a at *
  generalize s.v = b at *
  generalize x.k = c at *
  generalize x.v = d at *
  grind
theorem some_mrg {s x : Pq2} (hs : some16 s = true) (hx : some16 x = true) : some16 (mrg16 s x) = true := by
  unfold some16 at *
  simp only [mrg16, mn16, fur16]
  have e := em_new
  have tr := @lt14_trans
  have eq := @lt14_eq
  have ir := @lt14_self
  generalize s.k = a at *
  generalize s.v = b at *
  generalize x.k = c at *
  generalize x.v = d at *
  grind
theorem spd_tog : ∀ (S : List Pq2) (s : Pq2) (key : ByteArray), (∀ x ∈ S, some16 x = true) → some16 s = true → spd16 (tog16 S s) key = (spd16 S key || win key s.k s.v)
  | [], s, key, _, _ => by simp [tog16, spd16]
  | x :: l, s, key, hS, hs => by
    have hx := hS x (by simp)
    have hl : ∀ y ∈ l, some16 y = true := fun y hy => hS y (by simp [hy])
    unfold tog16
    cases h1 : apt16 x s with
    | true =>
      rw [if_pos rfl]
      have ih := spd_tog l s key hl hs
      unfold spd16 at ih ⊢
      rw [List.any_cons, ih, List.any_cons, Bool.or_assoc]
    | false =>
      rw [if_neg (by decide)]
      cases h2 : apt16 s x with
      | true =>
        rw [if_pos rfl]
        unfold spd16
        simp only [List.any_cons]
        rw [Bool.or_comm]
      | false =>
        rw [if_neg (by decide), spd_tog l _ key hl (some_mrg hs hx), win_mrg key hs hx h1 h2]
        unfold spd16
        rw [List.any_cons]
        generalize win key s.k s.v = a
        generalize win key x.k x.v = b
        generalize (l.any fun s => win key s.k s.v) = c
        cases a <;> cases b <;> cases c <;> rfl
theorem Spo16.tail {x : Pq2} {l : List Pq2} (h : Spo16 (x :: l)) : Spo16 l := ⟨fun y hy => h.1 y (by simp [hy]), (List.pairwise_cons.1 h.2).2⟩
/-- What a span that stands behind all of x grows to stands behind x, too. -/
theorem tog_behind : ∀ (l : List Pq2) (x s : Pq2), Spo16 (x :: l) → apt16 x s = true → ∀ y ∈ tog16 l s, apt16 x y = true
  | [], x, s, _, h, y, hy => by simp [tog16] at hy; rw [hy]; exact h
  | z :: l, x, s, hS, h, y, hy => by
    have hxz : apt16 x z = true := (List.pairwise_cons.1 hS.2).1 z (by simp)
    have hxl : Spo16 (x :: l) := ⟨fun y hy => hS.1 y (by simp at hy ⊢; rcases hy with h | h <;> simp [h]), List.pairwise_cons.2 ⟨fun y hy => (List.pairwise_cons.1 hS.2).1 y (by simp [hy]), (List.pairwise_cons.1 (List.pairwise_cons.1 hS.2).2).2⟩⟩
    unfold tog16 at hy
    split at hy
    · rcases List.mem_cons.1 hy with rfl | hy
      · exact hxz
      · exact tog_behind l x s hxl h y hy
    · split at hy
      · rcases List.mem_cons.1 hy with rfl | hy
        · exact h
        · exact (List.pairwise_cons.1 hS.2).1 y hy
      · exact tog_behind l x _ hxl (apt_mrg h hxz) y hy
theorem tog_spo : ∀ (S : List Pq2) (s : Pq2), Spo16 S → some16 s = true → Spo16 (tog16 S s)
  | [], s, _, hs => ⟨fun x hx => by simp [tog16] at hx; rw [hx]; exact hs, by simp [tog16]⟩
  | x :: l, s, hS, hs => by
    have hx := hS.1 x (by simp)
    unfold tog16
    cases h1 : apt16 x s with
    | true =>
      rw [if_pos rfl]
      have ih := tog_spo l s hS.tail hs
      refine ⟨fun y hy => ?_, List.pairwise_cons.2 ⟨fun y hy => tog_behind l x s hS h1 y hy, ih.2⟩⟩
      rcases List.mem_cons.1 hy with rfl | hy
      · exact hx
      · exact ih.1 y hy
    | false =>
      rw [if_neg (by decide)]
      cases h2 : apt16 s x with
      | true =>
        rw [if_pos rfl]
        refine ⟨fun y hy => ?_, List.pairwise_cons.2 ⟨fun y hy => ?_, hS.2⟩⟩
        · rcases List.mem_cons.1 hy with rfl | hy
          · exact hs
          · exact hS.1 y hy
        · rcases List.mem_cons.1 hy with rfl | hy
          · exact h2
          · exact apt_trans hx h2 ((List.pairwise_cons.1 hS.2).1 y hy)
      | false =>
        rw [if_neg (by decide)]
        exact tog_spo l _ hS.tail (some_mrg hs hx)
theorem win_self {s : Pq2} (h : some16 s = true) : win s.k s.k s.v = true := by
  unfold some16 at h
  rw [win_def, lt14_self]
  simpa using h
/-- Right spans are told by the keys that they have. -/
theorem spo_head {x y : Pq2} {l m : List Pq2} (hS : Spo16 (x :: l)) (hT : Spo16 (y :: m)) (h : ∀ key, spd16 (x :: l) key = spd16 (y :: m) key) : lt14 x.k y.k = false := by
  cases hl : lt14 x.k y.k with
  | false => rfl
  | true =>
    have hx := hS.1 x (by simp)
    have h1 : spd16 (x :: l) x.k = true := List.any_eq_true.2 ⟨x, by simp, win_self hx⟩
    rw [h] at h1
    obtain ⟨z, hz, hw⟩ := List.any_eq_true.1 h1
    rw [win_def] at hw
    have hzk : lt14 x.k z.k = false := by cases h : lt14 x.k z.k <;> simp [h] at hw ⊢
    rcases List.mem_cons.1 hz with rfl | hz
    · rw [hl] at hzk; cases hzk
    · have ha := (List.pairwise_cons.1 hT.2).1 z hz
      have hy := hT.1 y (by simp)
      unfold apt16 at ha
      unfold some16 at hy
      have t1 := @lt14_trans x.k y.k y.v
      have t2 := @lt14_trans x.k y.v z.k
      grind
theorem spo_end {x y : Pq2} {l m : List Pq2} (hS : Spo16 (x :: l)) (hT : Spo16 (y :: m)) (hk : x.k = y.k) (h : ∀ key, spd16 (x :: l) key = spd16 (y :: m) key) : (em16 y.v || lt14 x.v y.v) = true → em16 x.v = true := by
  intro h1
  cases hx : em16 x.v with
  | true => rfl
  | false =>
    have hsx := hS.1 x (by simp)
    have hw : win x.v y.k y.v = true := by
      rw [win_def, ← hk]
      unfold some16 at hsx
      have t1 := @lt14_trans x.k x.v x.k
      have ir := lt14_self x.k
      cases h2 : lt14 x.v x.k with
      | false => simpa [hx] using h1
      | true => grind
    have h3 : spd16 (y :: m) x.v = true := List.any_eq_true.2 ⟨y, by simp, hw⟩
    rw [← h] at h3
    obtain ⟨z, hz, hwz⟩ := List.any_eq_true.1 h3
    rw [win_def] at hwz
    rcases List.mem_cons.1 hz with rfl | hz
    · rw [hx, lt14_self] at hwz; simp at hwz
    · have ha := (List.pairwise_cons.1 hS.2).1 z hz
      unfold apt16 at ha
      simp [hx] at ha
      rw [ha] at hwz
      simp at hwz
theorem Spo16.win_tail {x : Pq2} {l : List Pq2} (hS : Spo16 (x :: l)) (key : ByteArray) : spd16 l key = (spd16 (x :: l) key && !win key x.k x.v) := by
  unfold spd16
  rw [List.any_cons]
  cases hw : win key x.k x.v with
  | false => simp
  | true =>
    simp only [Bool.true_or, Bool.not_true, Bool.and_false]
    rw [List.any_eq_false]
    intro z hz hwz
    have ha := (List.pairwise_cons.1 hS.2).1 z hz
    rw [win_def] at hw hwz
    unfold apt16 at ha
    have t1 := @lt14_trans key x.v z.k
    grind
theorem spo_same : ∀ (S T : List Pq2), Spo16 S → Spo16 T → (∀ key, spd16 S key = spd16 T key) → S = T
  | [], [], _, _, _ => rfl
  | [], y :: m, _, hT, h => by
    have h1 : spd16 (y :: m) y.k = true := List.any_eq_true.2 ⟨y, by simp, win_self (hT.1 y (by simp))⟩
    rw [← h] at h1
    simp [spd16] at h1
  | x :: l, [], hS, _, h => by
    have h1 : spd16 (x :: l) x.k = true := List.any_eq_true.2 ⟨x, by simp, win_self (hS.1 x (by simp))⟩
    rw [h] at h1
    simp [spd16] at h1
  | x :: l, y :: m, hS, hT, h => by
    have hk := lt14_eq (spo_head hS hT h) (spo_head hT hS (fun k => (h k).symm))
    have e1 := spo_end hS hT hk h
    have e2 := spo_end hT hS hk.symm (fun k => (h k).symm)
    have hv : x.v = y.v := by
      have q1 := @em_eq x.v y.v
      have q2 := @lt14_eq x.v y.v
      cases ex : em16 x.v with
      | true => exact q1 ex (e2 (by simp [ex]))
      | false =>
        cases ey : em16 y.v with
        | true => rw [e1 (by simp [ey])] at ex; cases ex
        | false =>
          refine q2 ?_ ?_
          · cases hl : lt14 x.v y.v with
            | false => rfl
            | true => rw [e1 (by simp [hl])] at ex; cases ex
          · cases hl : lt14 y.v x.v with
            | false => rfl
            | true => rw [e2 (by simp [hl])] at ey; cases ey
    have hxy : x = y := by cases x; cases y; simp_all
    subst hxy
    rw [spo_same l m hS.tail hT.tail (fun key => by rw [hS.win_tail, hT.win_tail, h])]
/-- Keys that rise. -/
def Kup (K : List ByteArray) : Prop := K.Pairwise (fun a b => lt14 a b = true)
/-- A key among keys that rise. -/
def insK16 (key : ByteArray) : List ByteArray → List ByteArray
  | [] => [key]
  | k :: l => if lt14 k key then k :: insK16 key l else if lt14 key k then key :: k :: l else k :: l
theorem mem_insK16 (key x : ByteArray) : ∀ (K : List ByteArray), x ∈ insK16 key K ↔ x = key ∨ x ∈ K
  | [] => by simp [insK16]
  | k :: l => by
    unfold insK16
    split
    · rw [List.mem_cons, mem_insK16 key x l, List.mem_cons]
      constructor
      · rintro (h | h | h) <;> simp [h]
      · rintro (h | h | h) <;> simp [h]
    · split
      · simp
      · rename_i h1 h2
        have := @lt14_eq k key (by simpa using h1) (by simpa using h2)
        subst this
        simp
theorem insK16_up (key : ByteArray) : ∀ (K : List ByteArray), Kup K → Kup (insK16 key K)
  | [], _ => by simp [insK16, Kup]
  | k :: l, h => by
    have h' := List.pairwise_cons.1 h
    unfold insK16
    split
    · rename_i hk
      refine List.pairwise_cons.2 ⟨fun y hy => ?_, insK16_up key l h'.2⟩
      rcases (mem_insK16 key y l).1 hy with rfl | hy
      · exact hk
      · exact h'.1 y hy
    · split
      · rename_i hk
        refine List.pairwise_cons.2 ⟨fun y hy => ?_, h⟩
        rcases List.mem_cons.1 hy with rfl | hy
        · exact hk
        · exact lt14_trans hk (h'.1 y hy)
      · exact h
theorem kup_same : ∀ (K M : List ByteArray), Kup K → Kup M → (∀ x, x ∈ K ↔ x ∈ M) → K = M
  | [], [], _, _, _ => rfl
  | [], y :: m, _, _, h => by have := (h y).2 (by simp); simp at this
  | x :: l, [], _, _, h => by have := (h x).1 (by simp); simp at this
  | x :: l, y :: m, hK, hM, h => by
    have hK' := List.pairwise_cons.1 hK
    have hM' := List.pairwise_cons.1 hM
    have e : x = y := by
      rcases List.mem_cons.1 ((h x).1 (by simp)) with e | h1
      · exact e
      · rcases List.mem_cons.1 ((h y).2 (by simp)) with e | h2
        · exact e.symm
        · have := lt14_trans (hM'.1 x h1) (hK'.1 y h2)
          rw [lt14_self] at this
          cases this
    subst e
    rw [kup_same l m hK'.2 hM'.2 (fun z => ?_)]
    constructor
    · intro hz
      rcases List.mem_cons.1 ((h z).1 (by simp [hz])) with rfl | h2
      · have := hK'.1 z hz; rw [lt14_self] at this; cases this
      · exact h2
    · intro hz
      rcases List.mem_cons.1 ((h z).2 (by simp [hz])) with rfl | h2
      · have := hM'.1 z hz; rw [lt14_self] at this; cases this
      · exact h2
end Go.Proofs.Ytaebhbdmmnpgeaa
