/- Layer 16: the document's Key. -/
import Derived.Test.YtjkfgbmlhglnfaaRdT
namespace Go.Proofs.Ytjkfgbmlhglnfaa
open Go.RowKit Go.Shelf
set_option linter.unusedVariables false
set_option linter.unusedSimpArgs false
set_option maxRecDepth 100000
attribute [local go_sem] Oper.semAt_some

theorem ins_len (key : ByteArray) : ∀ (K : List ByteArray), (insK16 key K).length ≤ K.length + 1
  | [] => by simp [insK16]
  | k :: l => by
    have := ins_len key l
    unfold insK16
    split
    · simp; omega
    · split <;> simp
theorem ins_mem (key x : ByteArray) : ∀ (K : List ByteArray), x ∈ insK16 key K → x = key ∨ x ∈ K
  | [], h => by simp [insK16] at h; exact .inl h
  | k :: l, h => by
    unfold insK16 at h
    split at h
    · rcases List.mem_cons.1 h with h | h
      · exact .inr (by simp [h])
      · rcases ins_mem key x l h with h | h
        · exact .inl h
        · exact .inr (by simp [h])
    · split at h
      · rcases List.mem_cons.1 h with h | h
        · exact .inl h
        · exact .inr h
      · exact .inr h
theorem ins_key {key : ByteArray} : ∀ {K : List ByteArray}, Kup K → key ∈ K → insK16 key K = K
  | [], _, h => by simp at h
  | k :: l, hu, h => by
    have hu' := List.pairwise_cons.1 hu
    unfold insK16
    rcases List.mem_cons.1 h with rfl | h
    · rw [if_neg (by rw [lt14_self]; decide), if_neg (by rw [lt14_self]; decide)]
    · rw [if_pos (hu'.1 key h), ins_key hu'.2 h]
theorem ins_filter {key : ByteArray} {p : ByteArray → Bool} (hp : p key = false) : ∀ (K : List ByteArray), (insK16 key K).filter p = K.filter p
  | [] => by simp [insK16, hp]
  | k :: l => by
    unfold insK16
    split
    · rw [List.filter_cons, List.filter_cons, ins_filter hp l]
    · split
      · rw [List.filter_cons, hp]; rfl
      · rfl
theorem mad_ins {K : List ByteArray} {S : List Pq2} {key : ByteArray} (h : Rgt16 K S) : mad16 S (insK16 key K) = if cov16 K S key then K else insK K (plK K key) key := by
  have hid : mad16 S K = K := List.filter_eq_self.2 (fun k hk => by simp [h.2.2.2 k hk])
  unfold cov16
  rw [hasK_iff h.2.2.1]
  by_cases hm : key ∈ K
  · rw [ins_key h.2.2.1 hm, hid]; simp [hm]
  · cases hs : spd16 S key with
    | true =>
      have : mad16 S (insK16 key K) = mad16 S K := ins_filter (by simp [hs]) K
      rw [this, hid]; simp
    | false =>
      have : mad16 S (insK16 key K) = insK16 key K := List.filter_eq_self.2 (fun x hx => by
        rcases ins_mem key x K hx with rfl | hx
        · simp [hs]
        · simp [h.2.2.2 x hx])
      rw [this, insK_is16 key K h.2.2.1 hm]; simp [hm]
/-- What is still to be laid. -/
def kin16 (key : ByteArray) (la : Bool) (l : List ByteArray) : List ByteArray := if la then l else insK16 key l
theorem wpList_app1k {w : World} {ops : Array Oper} {rest : List Oper} {o : Oper} {a : Act} {Q : Exit → Act → World → Prop} (hgd : o.guard = none) (x y : Operand)
    (ho : o.op = .call { callee := .builtin .append, args := #[x, y], argTypes := #[43, 43] })
    (B : Nat) (v : Value) (L : List ByteArray) (n q : Nat) (z : ByteArray) (hx : a.eval x = v) (hn : L.length = n) (hown : w.ownsRow B 9 1 v L.length (L.map Value.string)) (hy : a.eval y = .slice (some ⟨q, 0, none⟩) 1 1) (hq : Blk w q 9 [.string z]) (hb : n ≤ 1000000) (hB : B ≤ w.heap.size)
    (h : ∀ A' c' w', w'.ownsRow B 9 1 (.slice A' (n + 1) c') (L ++ [z]).length ((L ++ [z]).map Value.string) → Turn (fun k => v.ownBlock = some k) w w' → wpList Try.prog ops Q rest (a.put o.dst (.slice A' (n + 1) c')) w') : wpList Try.prog ops Q (o :: rest) a w := by
  subst hn
  refine wpList_app_rc hgd x y 43 ho B 9 _ 1 16 Try.underlying43 info_str16 rfl (by decide) v L.length (L.map Value.string) hx hown (some ⟨q, 0, none⟩) 1 1 [.string z] hy rfl hq.rc (fun u hu => by simp at hu; subst hu; rfl) (by unfold maxLen; omega) (by omega) hB ?_
  intro A' c' w' h1 h2 _
  refine h A' c' w' ?_ h2
  rw [List.length_append, List.map_append, List.length_singleton]
  exact h1
/-- What Key holds: the box of what came in, the result's box, a row of its own. -/
structure Ky16 (w X : World) (r0 r1 v : Value) (O : List ByteArray) : Prop where
  b : Blk X w.heap.size 46 [r0, r1]
  g : Blk X (w.heap.size + 1) 46 [.slice none 0 0, .slice none 0 0]
  o : X.ownsRow (w.heap.size + 2) 9 1 v O.length (O.map Value.string)
  t : Turn (fun _ => False) w X
section
variable {w X X' : World} {r0 r1 v v' : Value} {O O' : List ByteArray}
theorem Ky16.still (h : Ky16 w X r0 r1 v O) (ht : Turn (fun _ => False) X X') : Ky16 w X' r0 r1 v O := ⟨h.b.turn ht (fun e => e), h.g.turn ht (fun e => e), own_still_ h.o ht, h.t.trans ht⟩
theorem Ky16.ow (h : Ky16 w X r0 r1 v O) : ∀ k, v.ownBlock = some k → w.heap.size + 2 ≤ k ∧ k < X.heap.size := fun k hk => own_ge9 h.o k hk
theorem Ky16.app (h : Ky16 w X r0 r1 v O) (ho : X'.ownsRow (w.heap.size + 2) 9 1 v' O'.length (O'.map Value.string)) (ht : Turn (fun k => v.ownBlock = some k) X X') : Ky16 w X' r0 r1 v' O' :=
  ⟨h.b.turn ht (fun e => by have := h.ow _ e; omega), h.g.turn ht (fun e => by have := h.ow _ e; omega), ho, h.t.trans_new ht (fun k hk e => by have := h.ow _ e; omega)⟩
theorem Ky16.kx {A : Option Addr} {n c : Nat} (h : Ky16 w X r0 r1 (.slice A n c) O) (hn : O.length = n) (hl : n ≤ 1000000) : Kx X (.slice A n c) O := by
  have := h.o
  rw [hn] at this
  exact ⟨A, c, by rw [hn], by omega, rc_own this⟩
end
theorem lt14_ne {a b : ByteArray} (h : lt14 a b = true) : (a.toList == b.toList) = false ∧ (b.toList == a.toList) = false := by
  have hne : a ≠ b := fun e => by rw [e, lt14_self] at h; cases h
  have h1 := tl_eq a b
  have h2 := tl_eq b a
  rw [h1, h2]
  exact ⟨by simpa using hne, by simpa using fun e => hne (Eq.symm e)⟩
set_option maxHeartbeats 8000000 in
theorem refKey_16 (L : List ByteArray) (S : List Pq2) (key : ByteArray) (A1 : Option Addr) (n1 c1 : Nat) (A2 : Option Addr) (n2 c2 : Nat) (w : World) (hk : Kx w (.slice A1 n1 c1) L) (hs : Px w (.slice A2 n2 c2) S) (hcap : n2 ≤ c2) (hzk : ∀ k ∈ L, Szd k) (hzs : ∀ s ∈ S, Szd s.k ∧ Szd s.v) (hzz : Szd key) :
    Calls Try.prog 20 #[.agg #[.slice A1 n1 c1, .slice A2 n2 c2], .string key] w (RP16 w (key16 L S key)) := by
  have HN1 : Hid (L.length = n1) := Lib.hid (by obtain ⟨_, _, e, _⟩ := id hk; injection e with _ e _; exact e.symm)
  have HN2 : Hid (S.length = n2) := Lib.hid (by obtain ⟨_, _, e, _⟩ := id hs; injection e with _ e _; exact e.symm)
  have HRI := Lib.hid (fun W (hW : Turn (fun _ => False) w W) => refRight_16 L S A1 n1 c1 A2 n2 c2 W (hk.still hW) (hs.still hW) hzk hzs)
  have HK := Lib.hid hk
  have HS := Lib.hid hs
  have HZK := Lib.hid hzk
  have HZZ := Lib.hid hzz
  have HMD := Lib.hid (fun (h2 : n2 ≤ 1000) O A n c W (hO : O = insK16 key L) (h1 : n ≤ 1000) (hk : Kx W (.slice A n c) O) (hW : Turn (fun _ => False) w W) => refMade_16 O S A n c A2 n2 c2 W hk (hs.still hW) h1 h2 (fun k hk => by subst hO; rcases ins_mem key k L hk with rfl | h; exact hzz; exact hzk k h) hzs)
  clear hk hs hzk hzs hzz
  obtain ⟨W1, hW1⟩ : ∃ W, w.alloc (.cells #[.slice A1 n1 c1, .slice A2 n2 c2] 46) = W := ⟨_, rfl⟩
  obtain ⟨W2, hW2⟩ : ∃ W, W1.alloc (.cells #[.slice none 0 0, .slice none 0 0] 46) = W := ⟨_, rfl⟩
  have hz1 : W1.heap.size = w.heap.size + 1 := by rw [← hW1]; simp
  have M2 : Hid (Ky16 w W2 (.slice A1 n1 c1) (.slice A2 n2 c2) (.slice none 0 0) []) := Lib.hid ⟨hW2 ▸ (show Blk W1 w.heap.size 46 [.slice A1 n1 c1, .slice A2 n2 c2] from hW1 ▸ Blk.new _ _ _).alloc _, hz1 ▸ (hW2 ▸ Blk.new _ _ _), ⟨rfl, .inl ⟨rfl, rfl⟩⟩, hW2 ▸ (hW1 ▸ (Turn.refl (fun _ => False) w).alloc _ : Turn (fun _ => False) w W1).alloc _⟩
  obtain ⟨x0, x1⟩ := cells2b16 M2.out.b
  obtain ⟨r0, r1⟩ := cells2b16 M2.out.g
  obtain ⟨f0, f1⟩ := free2_16 M2.out.g
  unfold key16
  cases hr : rgb16 L S with
  | false =>
    rw [hr] at HRI
    simp only [Bool.false_eq_true, if_false]
    clear hr
    go_enter Try.func20, Try.ntmps20
    go_wp2_with (go_at_call 56; refine (HRI.out _ M2.out.t).mono ?_; rintro e w3 ⟨rfl, ht⟩; have M3 := Lib.hid (M2.out.still ht); obtain ⟨x0, x1⟩ := cells2b16 M3.out.b; obtain ⟨r0, r1⟩ := cells2b16 M3.out.g; obtain ⟨f0, f1⟩ := free2_16 M3.out.g; clear ht)
    obtain ⟨hb9, hs9⟩ := put2_16 M3.out.g (.slice none 0 0) (.slice none 0 0)
    obtain ⟨e0, e1⟩ := cells2b16 hb9
    refine bodyPost_ret (v := .tuple #[.agg #[.slice none 0 0, .slice none 0 0], .int .i64 4]) (by simp [results, Try.results20, go_sem, e0, e1]) rfl ⟨none, 0, 0, none, 0, 0, rfl, kx_nil16 _, px_nil16 _, Nat.le_refl _, M3.out.t.trans_new hs9 (fun k hk e => by omega)⟩
  | true =>
    have HRG := Lib.hid (rgb_iff.1 hr)
    have HLE : Hid (n1 ≤ 64 ∧ n2 ≤ 64) := Lib.hid (by have := HRG.out.1; have := HN1.out; have := HN2.out; omega)
    have hn1 := HLE.out.1
    rw [hr] at HRI
    simp only [if_true]
    clear hr
    have HIL : Hid ((insK16 key L).length ≤ 65) := Lib.hid (by have := ins_len key L; have := HN1.out; have := HLE.out; omega)
    have hP : ∃ (M : List ByteArray) (r : List ByteArray × List Pq2 × Int) (ok : Bool), mad16 S (insK16 key L) = M ∧ (if cov16 L S key = true then (L, S, (0 : Int)) else if L.length = 64 then ([], [], 9) else (insK L (plK L key) key, S, 0)) = r ∧ (decide (M.length ≤ 64) && decide (n2 ≤ 64)) = ok ∧ r = if ok then (M, S, 0) else ([], [], 9) := by
      refine ⟨_, _, _, rfl, rfl, rfl, ?_⟩
      rw [mad_ins HRG.out]
      have h2 := HLE.out.2
      cases cov16 L S key with
      | true => simp [h2]; have := HRG.out.1.1; omega
      | false =>
        simp only [Bool.false_eq_true, if_false]
        have hil : (insK L (plK L key) key).length = L.length + 1 := insK_len L (plK L key) key (plK_le L key)
        have h64 := HRG.out.1.1
        by_cases h : L.length = 64
        · rw [if_pos h]; simp [hil, h]
        · rw [if_neg h]; simp [hil, h2]; omega
    obtain ⟨M, r, ok, hM, hr, hok, hrr⟩ := hP
    rw [hr]
    have HRR := Lib.hid hrr
    have HM := Lib.hid hM
    have HMA : Hid (∀ O A n c W, O = insK16 key L → n ≤ 1000 → Kx W (.slice A n c) O → Turn (fun _ => False) w W → Calls Try.prog 58 #[.slice A n c, .slice A2 n2 c2] W fun e w' => ∃ (A : Option Addr) (n c : Nat), e = .returned (.tuple #[.agg #[.slice A n c, .slice A2 n2 c2], .bool ok]) ∧ Kx w' (.slice A n c) M ∧ Turn (fun _ => False) W w') := Lib.hid (fun O A n c W hO h1 hk hW => (HMD.out (by have := HLE.out; omega) O A n c W hO h1 hk hW).mono (fun e w' ⟨A', n', c', h1, h2, h3, h4⟩ => by
      subst hO
      rw [hM] at h2 h3
      rw [← h2, hok] at h1
      exact ⟨A', n', c', by rw [← h2]; exact h1, h3, h4⟩))
    clear hr hrr hok hM HMD
    go_enter Try.func20, Try.ntmps20
    go_wp2_with (go_at_call 56; refine (HRI.out _ M2.out.t).mono ?_; rintro e w3 ⟨rfl, ht⟩; have M3 := Lib.hid (M2.out.still ht); obtain ⟨x0, x1⟩ := cells2b16 M3.out.b; clear ht)
    go_loopw [6, 7, 8] (fun v6 v7 v8 wr => ∃ (i : Nat) (la : Bool) (O : List ByteArray) (A : Option Addr) (n c : Nat), i ≤ n1 ∧ v6 = .slice A n c ∧ v7 = .bool la ∧ v8 = .int .i64 i ∧ Hid (O.length = n) ∧ Hid (insK16 key L = O ++ kin16 key la (L.drop i)) ∧ Hid (la = true → ∀ k ∈ L.drop i, lt14 key k = true) ∧ Hid (Ky16 w wr (.slice A1 n1 c1) (.slice A2 n2 c2) (.slice A n c) O)) (fun _ _ v8 _ => n1 - (intOf v8).toNat)
    case atStart => exact ⟨0, false, [], none, 0, 0, Nat.zero_le _, rfl, rfl, rfl, Lib.hid rfl, Lib.hid rfl, Lib.hid (fun h => by cases h), M3⟩
    case round =>
      obtain ⟨i, la, O, A, n, c, hi, rfl, rfl, rfl, HNO, HTG, HJ, MO⟩ := hrel
      obtain ⟨wx, rfl⟩ : ∃ W, W = wr := ⟨_, rfl⟩
      clear x0 x1
      obtain ⟨x0, x1⟩ := cells2b16 MO.out.b
      have hnb : n ≤ 65 := by have h := congrArg List.length HTG.out; rw [List.length_append, HNO.out] at h; have := HIL.out; omega
      by_cases hlt : i < n1
      · have hi1 : (i : Int) < (n1 : Int) := by omega
        have hi0 : (0 : Int) ≤ (i : Int) := by omega
        have hq := wrap_of ((i : Int) + 1) (by omega) (by omega)
        obtain ⟨y, hy⟩ : ∃ y, L[i]? = some y := ⟨_, List.getElem?_eq_getElem (by rw [HN1.out]; exact hlt)⟩
        have HDR := Lib.hid (drop16 hy)
        have HUP : Hid (∀ k ∈ L.drop (i + 1), lt14 y k = true) := Lib.hid (by
          have h : Kup (L.drop i) := List.Pairwise.drop HRG.out.2.2.1
          rw [HDR.out] at h
          exact (List.pairwise_cons.1 h).1)
        obtain ⟨b, o, rfl, hcs⟩ := HK.out.cells (by rw [HN1.out]; omega)
        have c0 := hcs wx MO.out.t i y hy
        have HBL := Lib.hid (fun W => below_t y key (HZK.out y (List.mem_of_getElem? hy)) HZZ.out W)
        have HCS := Lib.hid hcs
        have HY := Lib.hid hy
        clear hcs hy
        cases la with
        | true =>
          have hky := HJ.out rfl y (by rw [HDR.out]; simp)
          obtain ⟨hq1, hq2⟩ := lt14_ne hky
          go_wp2_with (at_builtin; refine wpList_app1k rfl _ _ rfl (w.heap.size + 2) (.slice A n c) (O) n wx.heap.size y rfl HNO.out (MO.out.still ((Turn.refl _ _).alloc (.cells #[.string y] 9))).o rfl (Blk.new_ wx 9 [.string y] rfl) (by omega) (Nat.succ_le_of_lt (MO.out.still ((Turn.refl _ _).alloc (.cells #[.string y] 9))).g.lt) ?_; intro A7 c7 w7 ho7 ht7; have M7 := Lib.hid ((MO.out.still ((Turn.refl _ _).alloc (.cells #[.string y] 9))).app ho7 ht7); clear ho7 ht7; have c0 := HCS.out w7 M7.out.t i y HY.out; obtain ⟨x0, x1⟩ := cells2b16 M7.out.b)
          go_roundw
          case rel => exact ⟨i + 1, true, O ++ [y], A7, n + 1, c7, by omega, rfl, rfl, by simp [hq], Lib.hid (by simp [HNO.out]), Lib.hid (by rw [HTG.out, HDR.out]; simp [kin16]), Lib.hid (fun _ k hk => HJ.out rfl k (by rw [HDR.out]; simp [hk])), M7⟩
          case measure => simp [intOf, hq]; omega
        | false =>
          cases hb1 : lt14 y key with
          | true =>
            have HB2 := Lib.hid (fun W => by have := HBL.out W; rw [show Op.bytesLess y.data.toList key.data.toList = true from hb1] at this; exact this)
            obtain ⟨hq1, hq2⟩ := lt14_ne hb1
            go_wp2_with (first | (at_builtin; refine wpList_app1k rfl _ _ rfl (w.heap.size + 2) (.slice A n c) (O) n w5.heap.size y rfl HNO.out (M5.out.still ((Turn.refl _ _).alloc (.cells #[.string y] 9))).o rfl (Blk.new_ w5 9 [.string y] rfl) (by omega) (Nat.succ_le_of_lt (M5.out.still ((Turn.refl _ _).alloc (.cells #[.string y] 9))).g.lt) ?_; intro A7 c7 w7 ho7 ht7; have M7 := Lib.hid ((M5.out.still ((Turn.refl _ _).alloc (.cells #[.string y] 9))).app ho7 ht7); clear ho7 ht7; have c0 := HCS.out w7 M7.out.t i y HY.out; obtain ⟨x0, x1⟩ := cells2b16 M7.out.b) | (go_at_call 57; refine (HB2.out _).mono ?_; rintro e w5 ⟨rfl, ht⟩; have M5 := Lib.hid (MO.out.still ht); have c0 := HCS.out w5 M5.out.t i y HY.out; obtain ⟨x0, x1⟩ := cells2b16 M5.out.b; clear ht))
            go_roundw
            case rel => exact ⟨i + 1, false, O ++ [y], A7, n + 1, c7, by omega, rfl, rfl, by simp [hq], Lib.hid (by simp [HNO.out]), Lib.hid (by rw [HTG.out, HDR.out]; simp [kin16, insK16, hb1]), Lib.hid (fun h => by cases h), M7⟩
            case measure => simp [intOf, hq]; omega
          | false =>
            have HB2 := Lib.hid (fun W => by have := HBL.out W; rw [show Op.bytesLess y.data.toList key.data.toList = false from hb1] at this; exact this)
            cases hb2 : lt14 key y with
            | true =>
              obtain ⟨hq1, hq2⟩ := lt14_ne hb2
              go_wp2_with (first | (at_builtin; refine wpList_app1k rfl _ _ rfl (w.heap.size + 2) (.slice A7 (n + 1) c7) (O ++ [key]) (n + 1) w7.heap.size y rfl (by simp [HNO.out]) (M7.out.still ((Turn.refl _ _).alloc (.cells #[.string y] 9))).o rfl (Blk.new_ w7 9 [.string y] rfl) (by omega) (Nat.succ_le_of_lt (M7.out.still ((Turn.refl _ _).alloc (.cells #[.string y] 9))).g.lt) ?_; intro A8 c8 w8 ho8 ht8; have M8 := Lib.hid ((M7.out.still ((Turn.refl _ _).alloc (.cells #[.string y] 9))).app ho8 ht8); clear ho8 ht8; have c0 := HCS.out w8 M8.out.t i y HY.out; obtain ⟨x0, x1⟩ := cells2b16 M8.out.b) | (at_builtin; refine wpList_app1k rfl _ _ rfl (w.heap.size + 2) (.slice A n c) (O) n w5.heap.size key rfl HNO.out (M5.out.still ((Turn.refl _ _).alloc (.cells #[.string key] 9))).o rfl (Blk.new_ w5 9 [.string key] rfl) (by omega) (Nat.succ_le_of_lt (M5.out.still ((Turn.refl _ _).alloc (.cells #[.string key] 9))).g.lt) ?_; intro A7 c7 w7 ho7 ht7; have M7 := Lib.hid ((M5.out.still ((Turn.refl _ _).alloc (.cells #[.string key] 9))).app ho7 ht7); clear ho7 ht7; have c0 := HCS.out w7 M7.out.t i y HY.out; obtain ⟨x0, x1⟩ := cells2b16 M7.out.b) | (go_at_call 57; refine (HB2.out _).mono ?_; rintro e w5 ⟨rfl, ht⟩; have M5 := Lib.hid (MO.out.still ht); have c0 := HCS.out w5 M5.out.t i y HY.out; obtain ⟨x0, x1⟩ := cells2b16 M5.out.b; clear ht))
              go_roundw
              case rel => exact ⟨i + 1, true, O ++ [key] ++ [y], A8, n + 1 + 1, c8, by omega, rfl, rfl, by simp [hq], Lib.hid (by simp [HNO.out]), Lib.hid (by rw [HTG.out, HDR.out]; simp [kin16, insK16, hb1, hb2]), Lib.hid (fun _ k hk => lt14_trans hb2 (HUP.out k hk)), M8⟩
              case measure => simp [intOf, hq]; omega
            | false =>
              obtain rfl := lt14_eq hb2 hb1
              go_wp2_with (first | (at_builtin; refine wpList_app1k rfl _ _ rfl (w.heap.size + 2) (.slice A n c) (O) n w5.heap.size key rfl HNO.out (M5.out.still ((Turn.refl _ _).alloc (.cells #[.string key] 9))).o rfl (Blk.new_ w5 9 [.string key] rfl) (by omega) (Nat.succ_le_of_lt (M5.out.still ((Turn.refl _ _).alloc (.cells #[.string key] 9))).g.lt) ?_; intro A7 c7 w7 ho7 ht7; have M7 := Lib.hid ((M5.out.still ((Turn.refl _ _).alloc (.cells #[.string key] 9))).app ho7 ht7); clear ho7 ht7; have c0 := HCS.out w7 M7.out.t i _ HY.out; obtain ⟨x0, x1⟩ := cells2b16 M7.out.b) | (go_at_call 57; refine (HB2.out _).mono ?_; rintro e w5 ⟨rfl, ht⟩; have M5 := Lib.hid (MO.out.still ht); have c0 := HCS.out w5 M5.out.t i _ HY.out; obtain ⟨x0, x1⟩ := cells2b16 M5.out.b; clear ht))
              go_roundw
              case rel => exact ⟨i + 1, true, O ++ [key], A7, n + 1, c7, by omega, rfl, rfl, by simp [hq], Lib.hid (by simp [HNO.out]), Lib.hid (by rw [HTG.out, HDR.out]; simp [kin16, insK16, hb1, hb2]), Lib.hid (fun _ k hk => HUP.out k hk), M7⟩
              case measure => simp [intOf, hq]; omega
      · obtain rfl : n1 = i := by omega
        have hnl : ¬ (n1 : Int) < (n1 : Int) := by omega
        have hdr : L.drop n1 = [] := List.drop_eq_nil_of_le (by rw [HN1.out]; exact Nat.le_refl _)
        rw [hdr] at HTG
        clear hdr
        cases la with
        | true =>
          have HOE : Hid (O = insK16 key L) := Lib.hid (by have := HTG.out; simp [kin16] at this; exact this.symm)
          cases ok with
          | true =>
            have hrr := HRR.out
            simp only [if_true] at hrr
            subst hrr
            go_wp2_with (go_at_call 58; refine (HMA.out (O) A n c _ HOE.out (by omega) (MO.out.kx HNO.out (by omega)) MO.out.t).mono ?_; rintro e w8 ⟨A8, n8, c8, rfl, hk8, ht8⟩; have K8 := Lib.hid hk8; have V8 := Lib.hid (MO.out.t.trans ht8); have G8 := Lib.hid ((MO.out.g.turn ht8 (fun e => e)).alloc (.cells #[.slice A8 n8 c8, .slice A2 n2 c2] 46)); have Q8 := Lib.hid (Blk.new w8 46 [.slice A8 n8 c8, .slice A2 n2 c2]); have U8 := Lib.hid (V8.out.alloc (.cells #[.slice A8 n8 c8, .slice A2 n2 c2] 46)); have K9 := Lib.hid (hk8.still ((Turn.refl _ _).alloc (.cells #[.slice A8 n8 c8, .slice A2 n2 c2] 46))); obtain ⟨r0, r1⟩ := cells2b16 G8.out; obtain ⟨f0, f1⟩ := free2_16 G8.out; obtain ⟨q0, q1⟩ := cells2b16 Q8.out; clear hk8 ht8)
            obtain ⟨hb9, hs9⟩ := put2_16 G8.out (.slice A8 n8 c8) (.slice A2 n2 c2)
            obtain ⟨e0, e1⟩ := cells2b16 hb9
            refine bodyPost_ret (v := .tuple #[.agg #[.slice A8 n8 c8, .slice A2 n2 c2], .int .i64 0]) (by simp [results, Try.results20, go_sem, e0, e1]) rfl ⟨A8, n8, c8, A2, n2, c2, rfl, K9.out.off16 G8.out two_slices16 hs9, (HS.out.still U8.out).off16c G8.out two_slices16 hs9, hcap, U8.out.trans_new hs9 (fun k hk e => by omega)⟩
          | false =>
            have hrr := HRR.out
            simp only [Bool.false_eq_true, if_false] at hrr
            subst hrr
            go_wp2_with (go_at_call 58; refine (HMA.out (O) A n c _ HOE.out (by omega) (MO.out.kx HNO.out (by omega)) MO.out.t).mono ?_; rintro e w8 ⟨A8, n8, c8, rfl, hk8, ht8⟩; have K8 := Lib.hid hk8; have V8 := Lib.hid (MO.out.t.trans ht8); have G8 := Lib.hid ((MO.out.g.turn ht8 (fun e => e)).alloc (.cells #[.slice A8 n8 c8, .slice A2 n2 c2] 46)); have Q8 := Lib.hid (Blk.new w8 46 [.slice A8 n8 c8, .slice A2 n2 c2]); have U8 := Lib.hid (V8.out.alloc (.cells #[.slice A8 n8 c8, .slice A2 n2 c2] 46)); have K9 := Lib.hid (hk8.still ((Turn.refl _ _).alloc (.cells #[.slice A8 n8 c8, .slice A2 n2 c2] 46))); obtain ⟨r0, r1⟩ := cells2b16 G8.out; obtain ⟨f0, f1⟩ := free2_16 G8.out; obtain ⟨q0, q1⟩ := cells2b16 Q8.out; clear hk8 ht8)
            obtain ⟨hb9, hs9⟩ := put2_16 G8.out (.slice none 0 0) (.slice none 0 0)
            obtain ⟨e0, e1⟩ := cells2b16 hb9
            refine bodyPost_ret (v := .tuple #[.agg #[.slice none 0 0, .slice none 0 0], .int .i64 9]) (by simp [results, Try.results20, go_sem, e0, e1]) rfl ⟨none, 0, 0, none, 0, 0, rfl, kx_nil16 _, px_nil16 _, Nat.le_refl _, U8.out.trans_new hs9 (fun k hk e => by omega)⟩
        | false =>
          have HOE : Hid (O ++ [key] = insK16 key L) := Lib.hid (by have := HTG.out; simp [kin16, insK16] at this; exact this.symm)
          cases ok with
          | true =>
            have hrr := HRR.out
            simp only [if_true] at hrr
            subst hrr
            go_wp2_with (first | (go_at_call 58; refine (HMA.out (O ++ [key]) A7 (n + 1) c7 _ HOE.out (by omega) (M7.out.kx (by simp [HNO.out]) (by omega)) M7.out.t).mono ?_; rintro e w8 ⟨A8, n8, c8, rfl, hk8, ht8⟩; have K8 := Lib.hid hk8; have V8 := Lib.hid (M7.out.t.trans ht8); have G8 := Lib.hid ((M7.out.g.turn ht8 (fun e => e)).alloc (.cells #[.slice A8 n8 c8, .slice A2 n2 c2] 46)); have Q8 := Lib.hid (Blk.new w8 46 [.slice A8 n8 c8, .slice A2 n2 c2]); have U8 := Lib.hid (V8.out.alloc (.cells #[.slice A8 n8 c8, .slice A2 n2 c2] 46)); have K9 := Lib.hid (hk8.still ((Turn.refl _ _).alloc (.cells #[.slice A8 n8 c8, .slice A2 n2 c2] 46))); obtain ⟨r0, r1⟩ := cells2b16 G8.out; obtain ⟨f0, f1⟩ := free2_16 G8.out; obtain ⟨q0, q1⟩ := cells2b16 Q8.out; clear hk8 ht8) | (at_builtin; refine wpList_app1k rfl _ _ rfl (w.heap.size + 2) (.slice A n c) (O) n wx.heap.size key rfl HNO.out (MO.out.still ((Turn.refl _ _).alloc (.cells #[.string key] 9))).o rfl (Blk.new_ wx 9 [.string key] rfl) (by omega) (Nat.succ_le_of_lt (MO.out.still ((Turn.refl _ _).alloc (.cells #[.string key] 9))).g.lt) ?_; intro A7 c7 w7 ho7 ht7; have M7 := Lib.hid ((MO.out.still ((Turn.refl _ _).alloc (.cells #[.string key] 9))).app ho7 ht7); clear ho7 ht7; obtain ⟨x0, x1⟩ := cells2b16 M7.out.b))
            obtain ⟨hb9, hs9⟩ := put2_16 G8.out (.slice A8 n8 c8) (.slice A2 n2 c2)
            obtain ⟨e0, e1⟩ := cells2b16 hb9
            refine bodyPost_ret (v := .tuple #[.agg #[.slice A8 n8 c8, .slice A2 n2 c2], .int .i64 0]) (by simp [results, Try.results20, go_sem, e0, e1]) rfl ⟨A8, n8, c8, A2, n2, c2, rfl, K9.out.off16 G8.out two_slices16 hs9, (HS.out.still U8.out).off16c G8.out two_slices16 hs9, hcap, U8.out.trans_new hs9 (fun k hk e => by omega)⟩
          | false =>
            have hrr := HRR.out
            simp only [Bool.false_eq_true, if_false] at hrr
            subst hrr
            go_wp2_with (first | (go_at_call 58; refine (HMA.out (O ++ [key]) A7 (n + 1) c7 _ HOE.out (by omega) (M7.out.kx (by simp [HNO.out]) (by omega)) M7.out.t).mono ?_; rintro e w8 ⟨A8, n8, c8, rfl, hk8, ht8⟩; have K8 := Lib.hid hk8; have V8 := Lib.hid (M7.out.t.trans ht8); have G8 := Lib.hid ((M7.out.g.turn ht8 (fun e => e)).alloc (.cells #[.slice A8 n8 c8, .slice A2 n2 c2] 46)); have Q8 := Lib.hid (Blk.new w8 46 [.slice A8 n8 c8, .slice A2 n2 c2]); have U8 := Lib.hid (V8.out.alloc (.cells #[.slice A8 n8 c8, .slice A2 n2 c2] 46)); have K9 := Lib.hid (hk8.still ((Turn.refl _ _).alloc (.cells #[.slice A8 n8 c8, .slice A2 n2 c2] 46))); obtain ⟨r0, r1⟩ := cells2b16 G8.out; obtain ⟨f0, f1⟩ := free2_16 G8.out; obtain ⟨q0, q1⟩ := cells2b16 Q8.out; clear hk8 ht8) | (at_builtin; refine wpList_app1k rfl _ _ rfl (w.heap.size + 2) (.slice A n c) (O) n wx.heap.size key rfl HNO.out (MO.out.still ((Turn.refl _ _).alloc (.cells #[.string key] 9))).o rfl (Blk.new_ wx 9 [.string key] rfl) (by omega) (Nat.succ_le_of_lt (MO.out.still ((Turn.refl _ _).alloc (.cells #[.string key] 9))).g.lt) ?_; intro A7 c7 w7 ho7 ht7; have M7 := Lib.hid ((MO.out.still ((Turn.refl _ _).alloc (.cells #[.string key] 9))).app ho7 ht7); clear ho7 ht7; obtain ⟨x0, x1⟩ := cells2b16 M7.out.b))
            obtain ⟨hb9, hs9⟩ := put2_16 G8.out (.slice none 0 0) (.slice none 0 0)
            obtain ⟨e0, e1⟩ := cells2b16 hb9
            refine bodyPost_ret (v := .tuple #[.agg #[.slice none 0 0, .slice none 0 0], .int .i64 9]) (by simp [results, Try.results20, go_sem, e0, e1]) rfl ⟨none, 0, 0, none, 0, 0, rfl, kx_nil16 _, px_nil16 _, Nat.le_refl _, U8.out.trans_new hs9 (fun k hk e => by omega)⟩
end Go.Proofs.Ytjkfgbmlhglnfaa
