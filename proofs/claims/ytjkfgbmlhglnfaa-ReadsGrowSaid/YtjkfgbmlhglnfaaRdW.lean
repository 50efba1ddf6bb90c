/- Layer 16: the document's Span. -/
import Derived.Test.YtjkfgbmlhglnfaaRdV
import Derived.Test.YtjkfgbmlhglnfaaRdJ
namespace Go.Proofs.Ytjkfgbmlhglnfaa
open Go.RowKit Go.Shelf
set_option linter.unusedVariables false
set_option linter.unusedSimpArgs false
set_option maxRecDepth 100000
attribute [local go_sem] Oper.semAt_some

theorem wpList_app2s {w : World} {ops : Array Oper} {rest : List Oper} {o : Oper} {a : Act} {Q : Exit → Act → World → Prop} (hgd : o.guard = none) (x y : Operand)
    (ho : o.op = .call { callee := .builtin .append, args := #[x, y], argTypes := #[44, 44] })
    (B : Nat) (v : Value) (L : List Pq2) (n q : Nat) (z : Pq2) (hx : a.eval x = v) (hn : L.length = n) (hown : So16 B w v L) (hy : a.eval y = .slice (some ⟨q, 0, none⟩) 1 1) (hq : Blk w q 59 (pc2 z)) (hb : n ≤ 1000000) (hB : B ≤ w.heap.size)
    (h : ∀ A' c' w', So16 B w' (.slice A' (n + 1) c') (L ++ [z]) → Turn (fun k => v.ownBlock = some k) w w' → ((Value.slice A' (n + 1) c').ownBlock = v.ownBlock ∨ (Value.slice A' (n + 1) c').ownBlock = some w.heap.size) → wpList Try.prog ops Q rest (a.put o.dst (.slice A' (n + 1) c')) w') : wpList Try.prog ops Q (o :: rest) a w := by
  subst hn
  refine wpList_app_rc hgd x y 44 ho B 59 _ 2 32 Try.underlying44 info_sp16 rfl (by decide) v L.length (L.flatMap pc2) hx hown (some ⟨q, 0, none⟩) 1 1 (pc2 z) hy rfl hq.rc (fun u hu => by simp [pc2] at hu; rcases hu with rfl | rfl <;> rfl) (by unfold maxLen; omega) (by omega) hB ?_
  intro A' c' w' h1 h2 h3
  refine h A' c' w' ?_ h2 h3
  unfold So16
  rw [List.length_append, List.flatMap_append, List.length_singleton, List.flatMap_singleton]
  exact h1
theorem step_app_rc17 {P : Program} {w : World} {ops : Array Oper} {o : Oper} {a : Act} {K : Act → World → Prop} {Q : Exit → Act → World → Prop} {E : Prop} (hgd : o.guard = none) (x y : Operand) (t : TypeId)
    (ho : o.op = .call { callee := .builtin .append, args := #[x, y], argTypes := #[t, t] })
    (base : Nat) (e : TypeId) (z : Value) (size bytes : Nat) (ht : P.underlying t = some (.slice e)) (hi : (P.info? e).map (fun i => (i.zero, i.size, i.bytes)) = some (some z, size, bytes)) (hzs : z.cells.size = size) (hsz : 0 < size)
    (v : Value) (n : Nat) (xs : List Value) (hx : a.eval x = v) (hown : w.ownsRow base e size v n xs)
    (A : Option Addr) (m c : Nat) (news : List Value) (hy : a.eval y = .slice A m c) (hl : news.length = m * size) (hr : Rc w A news) (h1 : ∀ u ∈ news, u.oneCell' = true)
    (h63 : n + m ≤ maxLen) (hbytes : (n + m) * bytes ≤ 140737488355328) (hbase : base ≤ w.heap.size)
    (h : ∀ A' c' w', w'.ownsRow base e size (.slice A' (n + m) c') (n + m) (xs ++ news) → Turn (fun k => v.ownBlock = some k) w w' → ((Value.slice A' (n + m) c').ownBlock = v.ownBlock ∨ (Value.slice A' (n + m) c').ownBlock = some w.heap.size) → K (a.put o.dst (.slice A' (n + m) c')) w') :
    if Region.wanted o (yielded ops a.tmps) = true then Oper.wp P o a w K Q else E := by
  have hw : Region.wanted o (yielded ops a.tmps) = true := by simp [Region.wanted, hgd]
  rw [if_pos hw]
  cases hi' : P.info? e with
  | none => rw [hi'] at hi; cases hi
  | some i =>
    rw [hi'] at hi
    simp at hi
    obtain ⟨hz, hs, hb⟩ := hi
    obtain ⟨v', w', hrun, h2, h3, h5⟩ := run_app_rc (P := P) (w := w) base t o.type e i z size bytes ht hi' hz hs hb hzs hsz v n xs hown A m c news hl hr h1 h63 hbytes hbase
    obtain ⟨A', c', rfl⟩ := own_slice_ h2
    unfold Oper.wp execOp
    simp only [ho, resolve, invoke, builtin, Sem.run_bind, Sem.run_pure, Result.andThen_ok, List.map_toArray, List.map_cons, List.map_nil, hx, hy, hrun]
    exact h A' c' w' h2 h3 h5
theorem tog_len16 (S : List Pq2) (s : Pq2) : (tog16 S s).length ≤ S.length + 1 := tog_len S s
set_option maxHeartbeats 16000000 in
theorem refSpan_16 (L : List ByteArray) (S : List Pq2) (fa fb : ByteArray) (A1 : Option Addr) (n1 c1 : Nat) (A2 : Option Addr) (n2 c2 : Nat) (w : World) (hk : Kx w (.slice A1 n1 c1) L) (hs : Px w (.slice A2 n2 c2) S) (hcap : n2 ≤ c2) (hzk : ∀ k ∈ L, Szd k) (hzs : ∀ s ∈ S, Szd s.k ∧ Szd s.v) (hza : Szd fa) (hzb : Szd fb) :
    Calls Try.prog 22 #[.agg #[.slice A1 n1 c1, .slice A2 n2 c2], .string fa, .string fb] w (RP16 w (span16 L S ⟨fa, fb⟩)) := by
  have HN1 : Hid (L.length = n1) := Lib.hid (by obtain ⟨_, _, e, _⟩ := id hk; injection e with _ e _; exact e.symm)
  have HN2 : Hid (S.length = n2) := Lib.hid (by obtain ⟨_, _, e, _⟩ := id hs; injection e with _ e _; exact e.symm)
  have HRI := Lib.hid (fun W (hW : Turn (fun _ => False) w W) => refRight_16 L S A1 n1 c1 A2 n2 c2 W (hk.still hW) (hs.still hW) hzk hzs)
  have HHA := Lib.hid (fun W => refHas_16 ⟨fa, fb⟩ hza hzb W)
  have HK := Lib.hid hk
  have HS := Lib.hid hs
  have HZK := Lib.hid hzk
  have HZS := Lib.hid hzs
  have HZA := Lib.hid (And.intro hza hzb)
  have HMD := Lib.hid (fun (h1 : n1 ≤ 1000) T A n c W (hT : T = tog16 S ⟨fa, fb⟩) (h2 : n ≤ 1000) (hp : Px W (.slice A n c) T) (hW : Turn (fun _ => False) w W) => refMade_16 L T A1 n1 c1 A n c W (hk.still hW) hp h1 h2 hzk (by subst hT; exact tog_szd S ⟨fa, fb⟩ hzs ⟨hza, hzb⟩))
  clear hk hs hzk hzs hza hzb
  obtain ⟨W1, hW1⟩ : ∃ W, w.alloc (.cells #[.slice A1 n1 c1, .slice A2 n2 c2] 46) = W := ⟨_, rfl⟩
  obtain ⟨W2, hW2⟩ : ∃ W, W1.alloc (.cells #[.slice none 0 0, .slice none 0 0] 46) = W := ⟨_, rfl⟩
  have hz1 : W1.heap.size = w.heap.size + 1 := by rw [← hW1]; simp
  have M2 : Hid (Ky16 w W2 (.slice A1 n1 c1) (.slice A2 n2 c2) (.slice none 0 0) []) := Lib.hid ⟨hW2 ▸ (show Blk W1 w.heap.size 46 [.slice A1 n1 c1, .slice A2 n2 c2] from hW1 ▸ Blk.new _ _ _).alloc _, hz1 ▸ (hW2 ▸ Blk.new _ _ _), ⟨rfl, .inl ⟨rfl, rfl⟩⟩, hW2 ▸ (hW1 ▸ (Turn.refl (fun _ => False) w).alloc _ : Turn (fun _ => False) w W1).alloc _⟩
  obtain ⟨x0, x1⟩ := cells2b16 M2.out.b
  obtain ⟨r0, r1⟩ := cells2b16 M2.out.g
  obtain ⟨f0, f1⟩ := free2_16 M2.out.g
  obtain ⟨r, hrr⟩ : ∃ r, span16 L S ⟨fa, fb⟩ = r := ⟨_, rfl⟩
  rw [hrr]
  unfold span16 at hrr
  cases hr : rgb16 L S with
  | false =>
    rw [hr] at HRI hrr
    simp only [Bool.false_eq_true, if_false] at hrr
    subst hrr
    clear hr
    go_enter Try.func22, Try.ntmps22
    go_wp2_with (go_at_call 56; refine (HRI.out _ M2.out.t).mono ?_; rintro e w3 ⟨rfl, ht⟩; have M3 := Lib.hid (M2.out.still ht); obtain ⟨x0, x1⟩ := cells2b16 M3.out.b; obtain ⟨r0, r1⟩ := cells2b16 M3.out.g; obtain ⟨f0, f1⟩ := free2_16 M3.out.g; clear ht)
    obtain ⟨hb9, hs9⟩ := put2_16 M3.out.g (.slice none 0 0) (.slice none 0 0)
    obtain ⟨e0, e1⟩ := cells2b16 hb9
    refine bodyPost_ret (v := .tuple #[.agg #[.slice none 0 0, .slice none 0 0], .int .i64 4]) (by simp [results, Try.results22, go_sem, e0, e1]) rfl ⟨none, 0, 0, none, 0, 0, rfl, kx_nil16 _, px_nil16 _, Nat.le_refl _, M3.out.t.trans_new hs9 (fun k hk e => by omega)⟩
  | true =>
    have HRG := Lib.hid (rgb_iff.1 hr)
    have HLE : Hid (n1 ≤ 64 ∧ n2 ≤ 64) := Lib.hid (by have := HRG.out.1; have := HN1.out; have := HN2.out; omega)
    have hn2 := HLE.out.2
    rw [hr] at HRI hrr
    simp only [if_true] at hrr
    clear hr
    have HCALL : Hid (∀ w3, Ky16 w w3 (.slice A1 n1 c1) (.slice A2 n2 c2) (.slice none 0 0) [] → Ky16 w (w3.alloc (.cells #[.string fa, .string fb] 59)) (.slice A1 n1 c1) (.slice A2 n2 c2) (.slice none 0 0) []) := Lib.hid (fun w3 h => h.still ((Turn.refl _ _).alloc _))
    cases hso : some16 ⟨fa, fb⟩ with
    | false =>
      rw [hso] at hrr HHA
      simp only [Bool.false_eq_true, if_false] at hrr
      subst hrr
      clear hso
      go_enter Try.func22, Try.ntmps22
      go_wp2_with (first
        | (go_at_call 64; refine (HHA.out _).mono ?_; rintro e w4 ⟨rfl, ht⟩; have M4 := Lib.hid ((HCALL.out _ M3.out).still ht); obtain ⟨x0, x1⟩ := cells2b16 M4.out.b; obtain ⟨r0, r1⟩ := cells2b16 M4.out.g; obtain ⟨f0, f1⟩ := free2_16 M4.out.g; clear ht)
        | (go_at_call 56; refine (HRI.out _ M2.out.t).mono ?_; rintro e w3 ⟨rfl, ht⟩; have M3 := Lib.hid (M2.out.still ht); have Z3 := Lib.hid (Blk.new w3 59 [.string fa, .string fb]); obtain ⟨z0, z1⟩ := cells2b16 Z3.out; clear ht))
      obtain ⟨hb9, hs9⟩ := put2_16 M4.out.g (.slice A1 n1 c1) (.slice A2 n2 c2)
      obtain ⟨e0, e1⟩ := cells2b16 hb9
      refine bodyPost_ret (v := .tuple #[.agg #[.slice A1 n1 c1, .slice A2 n2 c2], .int .i64 0]) (by simp [results, Try.results22, go_sem, e0, e1]) rfl ⟨A1, n1, c1, A2, n2, c2, rfl, (HK.out.still M4.out.t).off16 M4.out.g two_slices16 hs9, (HS.out.still M4.out.t).off16c M4.out.g two_slices16 hs9, hcap, M4.out.t.trans_new hs9 (fun k hk e => by omega)⟩
    | true =>
      rw [hso] at hrr HHA
      simp only [if_true] at hrr
      have HSO := Lib.hid hso
      have HRR := Lib.hid hrr
      clear hso hrr
      go_enter Try.func22, Try.ntmps22
      go_wp2_with (first
        | (go_at_call 64; refine (HHA.out _).mono ?_; rintro e w4 ⟨rfl, ht⟩; have M4 := Lib.hid ((HCALL.out _ M3.out).still ht); have Z4 := Lib.hid (Z3.out.turn ht (fun e => e)); have HQ := Lib.hid (show w.heap.size + 2 ≤ w3.heap.size from M3.out.g.lt); have hsz : w3.heap.size < w4.heap.size := (by have := Z4.out.lt; exact this); obtain ⟨x0, x1⟩ := cells2b16 M4.out.b; clear ht)
        | (go_at_call 56; refine (HRI.out _ M2.out.t).mono ?_; rintro e w3 ⟨rfl, ht⟩; have M3 := Lib.hid (M2.out.still ht); have Z3 := Lib.hid (Blk.new w3 59 [.string fa, .string fb]); obtain ⟨z0, z1⟩ := cells2b16 Z3.out; clear ht))
      go_loopw [9, 10, 11] (fun v9 v10 v11 wr => ∃ (i : Nat) (fl : Bool) (O B : List Pq2) (x : Pq2) (A : Option Addr) (n c : Nat) (D : Option Addr) (m d : Nat), i ≤ n2 ∧ v9 = .slice A n c ∧ v10 = .slice D m d ∧ v11 = .int .i64 i ∧ Hid (O.length = n) ∧ Hid (B.length = m) ∧ Hid (tog16 S ⟨fa, fb⟩ = O ++ sp16 fl B x (S.drop i)) ∧ Hid ((fl = false → B = []) ∧ (fl = true → ∀ s ∈ S.drop i, apt16 x s = true)) ∧ Hid (n ≤ i ∧ m ≤ i) ∧ Hid (some16 x = true ∧ Szd x.k ∧ Szd x.v) ∧ Hid (Sg16 w wr w3.heap.size (.slice A1 n1 c1) (.slice A2 n2 c2) x (.slice A n c) (.slice D m d) O B)) (fun _ _ v11 _ => n2 - (intOf v11).toNat)
      case atStart => exact ⟨0, false, [], [], ⟨fa, fb⟩, none, 0, 0, none, 0, 0, Nat.zero_le _, rfl, rfl, rfl, Lib.hid rfl, Lib.hid rfl, Lib.hid rfl, Lib.hid ⟨fun _ => rfl, fun h => by cases h⟩, Lib.hid ⟨Nat.le_refl _, Nat.le_refl _⟩, Lib.hid ⟨HSO.out, HZA.out.1, HZA.out.2⟩, Lib.hid ⟨M4.out.b, M4.out.g, Z4.out, so_nil16 _ _, so_nil16 _ _, (fun k hk => by cases hk), M4.out.t, HQ.out⟩⟩
      case round =>
        obtain ⟨i, fl, O, B, ⟨xk, xv⟩, A, n, c, D, m, d, hi, rfl, rfl, rfl, HNO, HMB, HTG, HJ, HOI, HXS, MO⟩ := hrel
        obtain ⟨wx, rfl⟩ : ∃ W, W = wr := ⟨_, rfl⟩
        clear x0 x1
        obtain ⟨x0, x1⟩ := cells2b16 MO.out.b
        by_cases hlt : i < n2
        · have hi1 : (i : Int) < (n2 : Int) := by omega
          have hi0 : (0 : Int) ≤ (i : Int) := by omega
          have hq := wrap_of ((i : Int) + 1) (by omega) (by omega)
          obtain ⟨y, hy⟩ : ∃ y, S[i]? = some y := ⟨_, List.getElem?_eq_getElem (by rw [HN2.out]; exact hlt)⟩
          have HDR := Lib.hid (drop16 hy)
          obtain ⟨yk, yv⟩ := y
          have HYS : Hid (some16 ⟨yk, yv⟩ = true ∧ Szd yk ∧ Szd yv) := Lib.hid ⟨HRG.out.2.1.1 _ (List.mem_of_getElem? hy), HZS.out _ (List.mem_of_getElem? hy)⟩
          have HBE : Hid (apt16 ⟨xk, xv⟩ ⟨yk, yv⟩ = true → ∀ s ∈ S.drop (i + 1), apt16 ⟨xk, xv⟩ s = true) := Lib.hid (fun h s hs => by
            have h2 : (S.drop i).Pairwise (fun a b => apt16 a b = true) := List.Pairwise.drop HRG.out.2.1.2
            rw [HDR.out] at h2
            exact apt_trans HYS.out.1 h ((List.pairwise_cons.1 h2).1 s hs))
          obtain ⟨b, o, rfl, hcs⟩ := HS.out.cells (by rw [HN2.out]; omega)
          obtain ⟨k0, k1⟩ := hcs wx MO.out.t i _ hy
          simp only at k0 k1
          have HCS := Lib.hid hcs
          have HY := Lib.hid hy
          obtain ⟨w5, hw5⟩ : ∃ W, wx.alloc (.cells #[.string yk, .string yv] 59) = W := ⟨_, rfl⟩
          have M5 : Hid (Sg16 w w5 w3.heap.size (.slice A1 n1 c1) (.slice (some ⟨b, o, none⟩) n2 c2) ⟨xk, xv⟩ (.slice A n c) (.slice D m d) O B) := Lib.hid (hw5 ▸ MO.out.still ((Turn.refl _ _).alloc _))
          have Y5 : Hid (Blk w5 wx.heap.size 59 [.string yk, .string yv]) := Lib.hid (hw5 ▸ Blk.new _ _ _)
          obtain ⟨y0, y1⟩ := cells2b16 Y5.out
          obtain ⟨z0, z1⟩ := cells2b16 M5.out.x
          have HA1 := Lib.hid (fun W => refApart_16 ⟨yk, yv⟩ ⟨xk, xv⟩ HYS.out.2.2 HXS.out.2.1 W)
          have HA2 := Lib.hid (fun W => refApart_16 ⟨xk, xv⟩ ⟨yk, yv⟩ HXS.out.2.2 HYS.out.2.1 W)
          clear hcs hy
          cases ha1 : apt16 ⟨yk, yv⟩ ⟨xk, xv⟩ with
          | true =>
            rw [ha1] at HA1
            have hfl : fl = false := by
              cases fl with
              | false => rfl
              | true =>
                have := apt_asym HXS.out.1 HYS.out.1 (HJ.out.2 rfl ⟨yk, yv⟩ (by rw [HDR.out]; simp))
                rw [ha1] at this; cases this
            subst hfl
            have HBN := Lib.hid (HJ.out.1 rfl)
            go_wp2_with (first | (at_builtin; refine wpList_app2s rfl _ _ rfl (w3.heap.size + 1) (.slice A n c) O n w6.heap.size ⟨yk, yv⟩ rfl HNO.out (M6.out.still ((Turn.refl _ _).alloc (.cells #[.string yk, .string yv] 59))).oa rfl (Blk.new_ w6 59 [.string yk, .string yv] rfl) (by have := HOI.out; omega) (Nat.succ_le_of_lt (M6.out.still ((Turn.refl _ _).alloc (.cells #[.string yk, .string yv] 59))).x.lt) ?_; intro A8 c8 w8 ho8 ht8 hv8; have M8 := Lib.hid ((M6.out.still ((Turn.refl _ _).alloc (.cells #[.string yk, .string yv] 59))).appa ho8 ht8 hv8); obtain ⟨x0, x1⟩ := cells2b16 M8.out.b; clear ho8 ht8 hv8) | (go_at_call 65; refine (HA1.out _).mono ?_; rintro e w6 ⟨rfl, ht⟩; have M6 := Lib.hid (M5.out.still ht); have Y6 := Lib.hid (Y5.out.turn ht (fun e => e)); obtain ⟨y0, y1⟩ := cells2b16 Y6.out; obtain ⟨z0, z1⟩ := cells2b16 M6.out.x; obtain ⟨x0, x1⟩ := cells2b16 M6.out.b; obtain ⟨zf0, zf1⟩ := free2_16 M6.out.x; clear ht))
            refine ⟨⟨i + 1, false, O ++ [⟨yk, yv⟩], B, ⟨xk, xv⟩, A8, n + 1, c8, D, m, d, by omega, by first | rfl | trivial, by first | rfl | trivial, ?_, Lib.hid (by simp [HNO.out]), HMB, Lib.hid ?_, Lib.hid ⟨fun _ => HBN.out, fun h => by cases h⟩, Lib.hid (by have := HOI.out; omega), HXS, M8⟩, ?_⟩
            · go_num
            · rw [HTG.out, HDR.out, HBN.out, sp_ahead ha1, List.append_assoc]; rfl
            · simp [intOf]; omega
          | false =>
            rw [ha1] at HA1
            cases ha2 : apt16 ⟨xk, xv⟩ ⟨yk, yv⟩ with
            | true =>
              rw [ha2] at HA2
              cases fl with
              | true =>
                go_upto_region 17 with (first | (go_at_call 65; refine (HA1.out _).mono ?_; rintro e w6 ⟨rfl, ht⟩; have M6 := Lib.hid (M5.out.still ht); have Y6 := Lib.hid (Y5.out.turn ht (fun e => e)); obtain ⟨y0, y1⟩ := cells2b16 Y6.out; obtain ⟨z0, z1⟩ := cells2b16 M6.out.x; obtain ⟨x0, x1⟩ := cells2b16 M6.out.b; obtain ⟨zf0, zf1⟩ := free2_16 M6.out.x; clear ht))
                go_upto_region 18 with (first | (go_at_call 65; refine (HA2.out _).mono ?_; rintro e w7 ⟨rfl, ht⟩; have M7 := Lib.hid (M6.out.still ht); have Y7 := Lib.hid (Y6.out.turn ht (fun e => e)); obtain ⟨y0, y1⟩ := cells2b16 Y7.out; obtain ⟨z0, z1⟩ := cells2b16 M7.out.x; obtain ⟨x0, x1⟩ := cells2b16 M7.out.b; obtain ⟨zf0, zf1⟩ := free2_16 M7.out.x; clear ht))
                go_wp2_with (first | (at_builtin; refine wpList_app2s rfl _ _ rfl (w3.heap.size + 1) (.slice D m d) B m w7.heap.size ⟨yk, yv⟩ rfl HMB.out (M7.out.still ((Turn.refl _ _).alloc (.cells #[.string yk, .string yv] 59))).ob rfl (Blk.new_ w7 59 [.string yk, .string yv] rfl) (by have := HOI.out; omega) (Nat.succ_le_of_lt (M7.out.still ((Turn.refl _ _).alloc (.cells #[.string yk, .string yv] 59))).x.lt) ?_; intro A8 c8 w8 ho8 ht8 hv8; have M8 := Lib.hid ((M7.out.still ((Turn.refl _ _).alloc (.cells #[.string yk, .string yv] 59))).appb ho8 ht8 hv8); obtain ⟨x0, x1⟩ := cells2b16 M8.out.b; clear ho8 ht8 hv8))
                refine ⟨⟨i + 1, true, O, B ++ [⟨yk, yv⟩], ⟨xk, xv⟩, A, n, c, A8, m + 1, c8, by omega, by first | rfl | trivial, by first | rfl | trivial, ?_, HNO, Lib.hid (by simp [HMB.out]), Lib.hid ?_, Lib.hid ⟨fun h => (by cases h), fun _ => HBE.out ha2⟩, Lib.hid (by have := HOI.out; omega), HXS, M8⟩, ?_⟩
                · go_num
                · rw [HTG.out, HDR.out, sp_behind]
                · simp [intOf]; omega
              | false =>
                have HBN := Lib.hid (HJ.out.1 rfl)
                go_upto_region 17 with (first | (go_at_call 65; refine (HA1.out _).mono ?_; rintro e w6 ⟨rfl, ht⟩; have M6 := Lib.hid (M5.out.still ht); have Y6 := Lib.hid (Y5.out.turn ht (fun e => e)); obtain ⟨y0, y1⟩ := cells2b16 Y6.out; obtain ⟨z0, z1⟩ := cells2b16 M6.out.x; obtain ⟨x0, x1⟩ := cells2b16 M6.out.b; obtain ⟨zf0, zf1⟩ := free2_16 M6.out.x; clear ht))
                go_upto_region 18 with (first | (go_at_call 65; refine (HA2.out _).mono ?_; rintro e w7 ⟨rfl, ht⟩; have M7 := Lib.hid (M6.out.still ht); have Y7 := Lib.hid (Y6.out.turn ht (fun e => e)); obtain ⟨y0, y1⟩ := cells2b16 Y7.out; obtain ⟨z0, z1⟩ := cells2b16 M7.out.x; obtain ⟨x0, x1⟩ := cells2b16 M7.out.b; obtain ⟨zf0, zf1⟩ := free2_16 M7.out.x; clear ht))
                go_wp2_with (first | (at_builtin; refine wpList_app2s rfl _ _ rfl (w3.heap.size + 1) (.slice D m d) B m w7.heap.size ⟨yk, yv⟩ rfl HMB.out (M7.out.still ((Turn.refl _ _).alloc (.cells #[.string yk, .string yv] 59))).ob rfl (Blk.new_ w7 59 [.string yk, .string yv] rfl) (by have := HOI.out; omega) (Nat.succ_le_of_lt (M7.out.still ((Turn.refl _ _).alloc (.cells #[.string yk, .string yv] 59))).x.lt) ?_; intro A8 c8 w8 ho8 ht8 hv8; have M8 := Lib.hid ((M7.out.still ((Turn.refl _ _).alloc (.cells #[.string yk, .string yv] 59))).appb ho8 ht8 hv8); obtain ⟨x0, x1⟩ := cells2b16 M8.out.b; clear ho8 ht8 hv8))
                refine ⟨⟨i + 1, true, O, B ++ [⟨yk, yv⟩], ⟨xk, xv⟩, A, n, c, A8, m + 1, c8, by omega, by first | rfl | trivial, by first | rfl | trivial, ?_, HNO, Lib.hid (by simp [HMB.out]), Lib.hid ?_, Lib.hid ⟨fun h => (by cases h), fun _ => HBE.out ha2⟩, Lib.hid (by have := HOI.out; omega), HXS, M8⟩, ?_⟩
                · go_num
                · rw [HTG.out, HDR.out, HBN.out, sp_behind0 ha1 ha2]; rfl
                · simp [intOf]; omega
            | false =>
              rw [ha2] at HA2
              have hfl : fl = false := by
                cases fl with
                | false => rfl
                | true =>
                  have := HJ.out.2 rfl ⟨yk, yv⟩ (by rw [HDR.out]; simp)
                  rw [ha2] at this; cases this
              subst hfl
              have HBN := Lib.hid (HJ.out.1 rfl)
              have HL1 : Hid (∀ W, Calls Try.prog 57 #[.string yk, .string xk] W fun e w' => e = .returned (.bool (lt14 yk xk)) ∧ Turn (fun _ => False) W w') := Lib.hid (fun W => below_t yk xk HYS.out.2.1 HXS.out.2.1 W)
              have HL2 : Hid (∀ W, Calls Try.prog 57 #[.string xv, .string yv] W fun e w' => e = .returned (.bool (lt14 xv yv)) ∧ Turn (fun _ => False) W w') := Lib.hid (fun W => below_t xv yv HXS.out.2.2 HYS.out.2.2 W)

              have HSJ : Hid (tog16 S ⟨fa, fb⟩ = O ++ sp16 false [] (mrg16 ⟨xk, xv⟩ ⟨yk, yv⟩) (S.drop (i + 1))) := Lib.hid (by rw [HTG.out, HDR.out, HBN.out, sp_join ha1 ha2])
              have HXN : Hid (some16 (mrg16 ⟨xk, xv⟩ ⟨yk, yv⟩) = true ∧ Szd (mrg16 ⟨xk, xv⟩ ⟨yk, yv⟩).k ∧ Szd (mrg16 ⟨xk, xv⟩ ⟨yk, yv⟩).v) := Lib.hid ⟨some_mrg HXS.out.1 HYS.out.1, HXS.out.2.1.mn HYS.out.2.1, HXS.out.2.2.fur HYS.out.2.2⟩
              clear ha1 ha2
              go_upto_region 17 with (first | (go_at_call 65; refine (HA1.out _).mono ?_; rintro e w6 ⟨rfl, ht⟩; have M6 := Lib.hid (M5.out.still ht); have Y6 := Lib.hid (Y5.out.turn ht (fun e => e)); obtain ⟨y0, y1⟩ := cells2b16 Y6.out; obtain ⟨z0, z1⟩ := cells2b16 M6.out.x; obtain ⟨x0, x1⟩ := cells2b16 M6.out.b; obtain ⟨zf0, zf1⟩ := free2_16 M6.out.x; clear ht))
              go_upto_region 11 with (first | (go_at_call 65; refine (HA2.out _).mono ?_; rintro e w7 ⟨rfl, ht⟩; have M7 := Lib.hid (M6.out.still ht); have Y7 := Lib.hid (Y6.out.turn ht (fun e => e)); obtain ⟨y0, y1⟩ := cells2b16 Y7.out; obtain ⟨z0, z1⟩ := cells2b16 M7.out.x; obtain ⟨x0, x1⟩ := cells2b16 M7.out.b; obtain ⟨zf0, zf1⟩ := free2_16 M7.out.x; clear ht))
              cases hlk : lt14 yk xk with
              | true =>
                rw [hlk] at HL1
                go_upto_region 13 with (first | (go_at_call 57; refine (HL1.out _).mono ?_; rintro e w8 ⟨rfl, ht⟩; have M8 := Lib.hid (M7.out.still ht); have Y8 := Lib.hid (Y7.out.turn ht (fun e => e)); obtain ⟨y0, y1⟩ := cells2b16 Y8.out; obtain ⟨z0, z1⟩ := cells2b16 M8.out.x; obtain ⟨x0, x1⟩ := cells2b16 M8.out.b; obtain ⟨zf0, zf1⟩ := free2_16 M8.out.x; clear ht))
                obtain ⟨w9, hw9⟩ : ∃ W, w8.setCell ⟨w3.heap.size, 0, none⟩ (.string yk) = W := ⟨_, rfl⟩
                have M9 : Hid (Sg16 w w9 w3.heap.size (.slice A1 n1 c1) (.slice (some ⟨b, o, none⟩) n2 c2) ⟨yk, xv⟩ (.slice A n c) (.slice D m d) O B) := Lib.hid (hw9 ▸ M8.out.putk yk)
                have Y9 : Hid (Blk w9 wx.heap.size 59 [.string yk, .string yv]) := Lib.hid (hw9 ▸ Y8.out.turn ((Turn.refl (fun k => k = w3.heap.size) w8).setCell (p := ⟨w3.heap.size, 0, none⟩) (.inl rfl) (.string yk)) (fun e => by have := MO.out.x.lt; omega))
                rw [hw9]
                clear hw9 y0 y1 z0 z1 x0 x1 zf0 zf1
                obtain ⟨y0, y1⟩ := cells2b16 Y9.out; obtain ⟨z0, z1⟩ := cells2b16 M9.out.x; obtain ⟨x0, x1⟩ := cells2b16 M9.out.b; obtain ⟨zf0, zf1⟩ := free2_16 M9.out.x
                cases hyv : em16 yv with
                | true =>
                  have HMG : Hid ((⟨yk, yv⟩ : Pq2) = mrg16 ⟨xk, xv⟩ ⟨yk, yv⟩) := Lib.hid (by unfold mrg16 mn16; simp only [hlk, fur_doc, hyv]; rfl)
                  have g3 : yv.toList.isEmpty = true := hyv
                  clear hyv
                  go_wp2_with fail
                  refine ⟨⟨i + 1, false, O, B, ⟨yk, yv⟩, A, n, c, D, m, d, by omega, by first | rfl | trivial, by first | rfl | trivial, ?_, HNO, HMB, Lib.hid ?_, Lib.hid ⟨fun _ => HBN.out, fun h => by cases h⟩, Lib.hid (by have := HOI.out; omega), Lib.hid ?_, Lib.hid (M9.out.putv yv)⟩, ?_⟩
                  · go_num
                  · rw [HSJ.out, HBN.out, ← HMG.out]
                  · rw [HMG.out]; exact HXN.out
                  · simp [intOf]; omega
                | false =>
                  have g3 : yv.toList.isEmpty = false := hyv
                  cases hxv : em16 xv with
                  | true =>
                    have HMG : Hid ((⟨yk, xv⟩ : Pq2) = mrg16 ⟨xk, xv⟩ ⟨yk, yv⟩) := Lib.hid (by unfold mrg16 mn16; simp only [hlk, fur_doc, hyv, hxv]; rfl)
                    have g4 : xv.toList.isEmpty = true := hxv
                    clear hyv hxv
                    go_wp2_with fail
                    refine ⟨⟨i + 1, false, O, B, ⟨yk, xv⟩, A, n, c, D, m, d, by omega, by first | rfl | trivial, by first | rfl | trivial, ?_, HNO, HMB, Lib.hid ?_, Lib.hid ⟨fun _ => HBN.out, fun h => by cases h⟩, Lib.hid (by have := HOI.out; omega), Lib.hid ?_, M9⟩, ?_⟩
                    · go_num
                    · rw [HSJ.out, HBN.out, ← HMG.out]
                    · rw [HMG.out]; exact HXN.out
                    · simp [intOf]; omega
                  | false =>
                    have g4 : xv.toList.isEmpty = false := hxv
                    cases hlv : lt14 xv yv with
                    | true =>
                      have HMG : Hid ((⟨yk, yv⟩ : Pq2) = mrg16 ⟨xk, xv⟩ ⟨yk, yv⟩) := Lib.hid (by unfold mrg16 mn16; simp only [hlk, fur_doc, hyv, hxv, hlv]; rfl)
                      rw [hlv] at HL2
                      clear hyv hxv hlv
                      go_wp2_with (first | (go_at_call 57; refine (HL2.out _).mono ?_; rintro e w10 ⟨rfl, ht⟩; have M10 := Lib.hid (M9.out.still ht); have Y10 := Lib.hid (Y9.out.turn ht (fun e => e)); obtain ⟨y0, y1⟩ := cells2b16 Y10.out; obtain ⟨z0, z1⟩ := cells2b16 M10.out.x; obtain ⟨x0, x1⟩ := cells2b16 M10.out.b; obtain ⟨zf0, zf1⟩ := free2_16 M10.out.x; clear ht))
                      refine ⟨⟨i + 1, false, O, B, ⟨yk, yv⟩, A, n, c, D, m, d, by omega, by first | rfl | trivial, by first | rfl | trivial, ?_, HNO, HMB, Lib.hid ?_, Lib.hid ⟨fun _ => HBN.out, fun h => by cases h⟩, Lib.hid (by have := HOI.out; omega), Lib.hid ?_, Lib.hid (M10.out.putv yv)⟩, ?_⟩
                      · go_num
                      · rw [HSJ.out, HBN.out, ← HMG.out]
                      · rw [HMG.out]; exact HXN.out
                      · simp [intOf]; omega
                    | false =>
                      have HMG : Hid ((⟨yk, xv⟩ : Pq2) = mrg16 ⟨xk, xv⟩ ⟨yk, yv⟩) := Lib.hid (by unfold mrg16 mn16; simp only [hlk, fur_doc, hyv, hxv, hlv]; rfl)
                      rw [hlv] at HL2
                      clear hyv hxv hlv
                      go_wp2_with (first | (go_at_call 57; refine (HL2.out _).mono ?_; rintro e w10 ⟨rfl, ht⟩; have M10 := Lib.hid (M9.out.still ht); have Y10 := Lib.hid (Y9.out.turn ht (fun e => e)); obtain ⟨y0, y1⟩ := cells2b16 Y10.out; obtain ⟨z0, z1⟩ := cells2b16 M10.out.x; obtain ⟨x0, x1⟩ := cells2b16 M10.out.b; obtain ⟨zf0, zf1⟩ := free2_16 M10.out.x; clear ht))
                      refine ⟨⟨i + 1, false, O, B, ⟨yk, xv⟩, A, n, c, D, m, d, by omega, by first | rfl | trivial, by first | rfl | trivial, ?_, HNO, HMB, Lib.hid ?_, Lib.hid ⟨fun _ => HBN.out, fun h => by cases h⟩, Lib.hid (by have := HOI.out; omega), Lib.hid ?_, M10⟩, ?_⟩
                      · go_num
                      · rw [HSJ.out, HBN.out, ← HMG.out]
                      · rw [HMG.out]; exact HXN.out
                      · simp [intOf]; omega
              | false =>
                rw [hlk] at HL1
                go_upto_region 13 with (first | (go_at_call 57; refine (HL1.out _).mono ?_; rintro e w8 ⟨rfl, ht⟩; have M8 := Lib.hid (M7.out.still ht); have Y8 := Lib.hid (Y7.out.turn ht (fun e => e)); obtain ⟨y0, y1⟩ := cells2b16 Y8.out; obtain ⟨z0, z1⟩ := cells2b16 M8.out.x; obtain ⟨x0, x1⟩ := cells2b16 M8.out.b; obtain ⟨zf0, zf1⟩ := free2_16 M8.out.x; clear ht))
                cases hyv : em16 yv with
                | true =>
                  have HMG : Hid ((⟨xk, yv⟩ : Pq2) = mrg16 ⟨xk, xv⟩ ⟨yk, yv⟩) := Lib.hid (by unfold mrg16 mn16; simp only [hlk, fur_doc, hyv]; rfl)
                  have g3 : yv.toList.isEmpty = true := hyv
                  clear hyv
                  go_wp2_with fail
                  refine ⟨⟨i + 1, false, O, B, ⟨xk, yv⟩, A, n, c, D, m, d, by omega, by first | rfl | trivial, by first | rfl | trivial, ?_, HNO, HMB, Lib.hid ?_, Lib.hid ⟨fun _ => HBN.out, fun h => by cases h⟩, Lib.hid (by have := HOI.out; omega), Lib.hid ?_, Lib.hid (M8.out.putv yv)⟩, ?_⟩
                  · go_num
                  · rw [HSJ.out, HBN.out, ← HMG.out]
                  · rw [HMG.out]; exact HXN.out
                  · simp [intOf]; omega
                | false =>
                  have g3 : yv.toList.isEmpty = false := hyv
                  cases hxv : em16 xv with
                  | true =>
                    have HMG : Hid ((⟨xk, xv⟩ : Pq2) = mrg16 ⟨xk, xv⟩ ⟨yk, yv⟩) := Lib.hid (by unfold mrg16 mn16; simp only [hlk, fur_doc, hyv, hxv]; rfl)
                    have g4 : xv.toList.isEmpty = true := hxv
                    clear hyv hxv
                    go_wp2_with fail
                    refine ⟨⟨i + 1, false, O, B, ⟨xk, xv⟩, A, n, c, D, m, d, by omega, by first | rfl | trivial, by first | rfl | trivial, ?_, HNO, HMB, Lib.hid ?_, Lib.hid ⟨fun _ => HBN.out, fun h => by cases h⟩, Lib.hid (by have := HOI.out; omega), Lib.hid ?_, M8⟩, ?_⟩
                    · go_num
                    · rw [HSJ.out, HBN.out, ← HMG.out]
                    · rw [HMG.out]; exact HXN.out
                    · simp [intOf]; omega
                  | false =>
                    have g4 : xv.toList.isEmpty = false := hxv
                    cases hlv : lt14 xv yv with
                    | true =>
                      have HMG : Hid ((⟨xk, yv⟩ : Pq2) = mrg16 ⟨xk, xv⟩ ⟨yk, yv⟩) := Lib.hid (by unfold mrg16 mn16; simp only [hlk, fur_doc, hyv, hxv, hlv]; rfl)
                      rw [hlv] at HL2
                      clear hyv hxv hlv
                      go_wp2_with (first | (go_at_call 57; refine (HL2.out _).mono ?_; rintro e w10 ⟨rfl, ht⟩; have M10 := Lib.hid (M8.out.still ht); have Y10 := Lib.hid (Y8.out.turn ht (fun e => e)); obtain ⟨y0, y1⟩ := cells2b16 Y10.out; obtain ⟨z0, z1⟩ := cells2b16 M10.out.x; obtain ⟨x0, x1⟩ := cells2b16 M10.out.b; obtain ⟨zf0, zf1⟩ := free2_16 M10.out.x; clear ht))
                      refine ⟨⟨i + 1, false, O, B, ⟨xk, yv⟩, A, n, c, D, m, d, by omega, by first | rfl | trivial, by first | rfl | trivial, ?_, HNO, HMB, Lib.hid ?_, Lib.hid ⟨fun _ => HBN.out, fun h => by cases h⟩, Lib.hid (by have := HOI.out; omega), Lib.hid ?_, Lib.hid (M10.out.putv yv)⟩, ?_⟩
                      · go_num
                      · rw [HSJ.out, HBN.out, ← HMG.out]
                      · rw [HMG.out]; exact HXN.out
                      · simp [intOf]; omega
                    | false =>
                      have HMG : Hid ((⟨xk, xv⟩ : Pq2) = mrg16 ⟨xk, xv⟩ ⟨yk, yv⟩) := Lib.hid (by unfold mrg16 mn16; simp only [hlk, fur_doc, hyv, hxv, hlv]; rfl)
                      rw [hlv] at HL2
                      clear hyv hxv hlv
                      go_wp2_with (first | (go_at_call 57; refine (HL2.out _).mono ?_; rintro e w10 ⟨rfl, ht⟩; have M10 := Lib.hid (M8.out.still ht); have Y10 := Lib.hid (Y8.out.turn ht (fun e => e)); obtain ⟨y0, y1⟩ := cells2b16 Y10.out; obtain ⟨z0, z1⟩ := cells2b16 M10.out.x; obtain ⟨x0, x1⟩ := cells2b16 M10.out.b; obtain ⟨zf0, zf1⟩ := free2_16 M10.out.x; clear ht))
                      refine ⟨⟨i + 1, false, O, B, ⟨xk, xv⟩, A, n, c, D, m, d, by omega, by first | rfl | trivial, by first | rfl | trivial, ?_, HNO, HMB, Lib.hid ?_, Lib.hid ⟨fun _ => HBN.out, fun h => by cases h⟩, Lib.hid (by have := HOI.out; omega), Lib.hid ?_, M10⟩, ?_⟩
                      · go_num
                      · rw [HSJ.out, HBN.out, ← HMG.out]
                      · rw [HMG.out]; exact HXN.out
                      · simp [intOf]; omega
        · obtain rfl : n2 = i := by omega
          have hnl : ¬ (n2 : Int) < (n2 : Int) := by omega
          have hdr : S.drop n2 = [] := List.drop_eq_nil_of_le (by rw [HN2.out]; exact Nat.le_refl _)
          rw [hdr] at HTG
          have HTE : Hid (tog16 S ⟨fa, fb⟩ = O ++ ⟨xk, xv⟩ :: B) := Lib.hid (by rw [HTG.out, sp_end HJ.out.1])
          clear hdr
          have HLN : Hid ((tog16 S ⟨fa, fb⟩).length = (n + 1 + m)) := Lib.hid (by rw [HTE.out, List.length_append, List.length_cons, HNO.out, HMB.out]; omega)
          have HFL : Hid (O.flatMap pc2 ++ pc2 ⟨xk, xv⟩ ++ B.flatMap pc2 = (tog16 S ⟨fa, fb⟩).flatMap pc2) := Lib.hid (by rw [HTE.out, List.flatMap_append, List.flatMap_cons, List.append_assoc])
          have hn64 := HOI.out
          have hl64 := HLE.out
          have HRV := HRR
          rw [HLN.out] at HRV
          obtain ⟨ok, hok⟩ : ∃ b, decide ((n + 1 + m) ≤ 64) = b := ⟨_, rfl⟩
          have HMA : Hid (∀ A c W, Px W (.slice A (n + 1 + m) c) (tog16 S ⟨fa, fb⟩) → Turn (fun _ => False) w W → Calls Try.prog 58 #[.slice A1 n1 c1, .slice A (n + 1 + m) c] W fun e w' => ∃ A9 n9 c9, e = .returned (.tuple #[.agg #[.slice A9 n9 c9, .slice A (n + 1 + m) c], .bool ok]) ∧ Kx w' (.slice A9 n9 c9) (mad16 (tog16 S ⟨fa, fb⟩) L) ∧ Turn (fun _ => False) W w') := Lib.hid (fun A c W hp hW => (HMD.out (by omega) _ A _ c W rfl (by omega) hp hW).mono fun e w' ⟨A9, n9, c9, h1, h2, h3, h4⟩ => ⟨A9, n9, c9, by
            have : n9 ≤ 64 := by rw [← h2]; exact Nat.le_trans (mad_len _ _) (by rw [HN1.out]; omega)
            rw [h1, hok, decide_eq_true this, Bool.true_and], h3, h4⟩)
          have V20 : Hid (Turn (fun k => w3.heap.size < k) wx wx.drew) := Lib.hid (Turn.refl _ _).drew
          have RA20 : Hid (World.ownsRow wx.drew (w3.heap.size + 1) 59 2 (.slice A n c) O.length (O.flatMap pc2)) := Lib.hid (own_still_ MO.out.oa (Turn.refl _ _).drew)
          have RB20 : Hid (World.ownsRow wx.drew (w3.heap.size + 1) 59 2 (.slice D m d) B.length (B.flatMap pc2)) := Lib.hid (own_still_ MO.out.ob (Turn.refl _ _).drew)
          go_upto_region 19 with fail
          cases ok with
          | true =>
            have hok := of_decide_eq_true hok
            have hrr := HRV.out
            rw [if_neg (by omega)] at hrr
            subst hrr
            refine wp_region_noPanic ?_
            refine wp_region_held_drew (S := (fun X => Turn (fun k => w3.heap.size < k) wx X)) (by kernel_rfl) V20.out (fun hHeld => ?_)
            clear hHeld
            refine wpAnyH_take (i := 0) (v := ?_) rfl (by kernel_rfl) (by kernel_rfl) (by kernel_rfl) (fun _ _ _ h => h) (Or.inl ⟨by rfl, ?_⟩) (by assumption) ?_
            rotate_left 1
            · intro w' hSw
              go_simp
              all_goals first | with_reducible rfl | (rw [if_neg (by omega)]; done) | (rw [if_pos (by omega)]; done)
            try simp only [List.getElem_toArray, List.getElem_cons_zero, List.getElem_cons_succ, Act.put, List.setIfInBounds_toArray, List.set_cons_zero, List.set_cons_succ]
            refine wpAnyH_take (i := 1) (v := ?_) rfl (by kernel_rfl) (by kernel_rfl) (by kernel_rfl) (fun _ _ _ h => h) (Or.inl ⟨by rfl, ?_⟩) (by assumption) ?_
            rotate_left 1
            · intro w' hSw
              obtain ⟨x0, x1⟩ := cells2b16 (MO.out.b.turn hSw (fun h => by have := MO.out.q; omega))
              go_simp
              all_goals first | with_reducible rfl | (rw [if_neg (by omega)]; done) | (rw [if_pos (by omega)]; done)
            try simp only [List.getElem_toArray, List.getElem_cons_zero, List.getElem_cons_succ, Act.put, List.setIfInBounds_toArray, List.set_cons_zero, List.set_cons_succ]
            refine wpAnyH_take (i := 2) (v := ?_) rfl (by kernel_rfl) (by kernel_rfl) (by kernel_rfl) (fun _ _ _ h => h) (Or.inl ⟨by rfl, ?_⟩) (by assumption) ?_
            rotate_left 1
            · intro w' hSw
              go_simp
              all_goals first | with_reducible rfl | (rw [if_neg (by omega)]; done) | (rw [if_pos (by omega)]; done)
            try simp only [List.getElem_toArray, List.getElem_cons_zero, List.getElem_cons_succ, Act.put, List.setIfInBounds_toArray, List.set_cons_zero, List.set_cons_succ]
            refine wpAnyH_take (i := 3) (v := ?_) rfl (by kernel_rfl) (by kernel_rfl) (by kernel_rfl) (fun _ _ _ h => h) (Or.inl ⟨by rfl, ?_⟩) (by assumption) ?_
            rotate_left 1
            · intro w' hSw
              obtain ⟨z0, z1⟩ := cells2b16 (MO.out.x.turn hSw (fun h => by omega))
              simp only at z0 z1
              go_simp
              all_goals first | with_reducible rfl | (rw [if_neg (by omega)]; done) | (rw [if_pos (by omega)]; done)
            try simp only [List.getElem_toArray, List.getElem_cons_zero, List.getElem_cons_succ, Act.put, List.setIfInBounds_toArray, List.set_cons_zero, List.set_cons_succ]
            refine wpAnyH_take (i := 6) (v := ?_) rfl (by kernel_rfl) (by kernel_rfl) (by kernel_rfl) (fun _ _ _ h => h) (Or.inl ⟨by rfl, ?_⟩) (by assumption) ?_
            rotate_left 1
            · intro w' hSw
              go_simp
              all_goals first | with_reducible rfl | (rw [if_neg (by omega)]; done) | (rw [if_pos (by omega)]; done)
            try simp only [List.getElem_toArray, List.getElem_cons_zero, List.getElem_cons_succ, Act.put, List.setIfInBounds_toArray, List.set_cons_zero, List.set_cons_succ]
            refine wpAnyH_ready (rs := [4, 12]) (by kernel_rfl) (by simp) ?_
            refine AllReadyH.cons rfl (fun K hK => ?_) (AllReadyH.cons rfl (fun K hK => ?_) AllReadyH.nil)
            · refine step_build16 rfl 44 59 _ rfl [.string xk, .string xv] (by rfl) Try.underlying44 info_sp16 rfl ?_
              have NB21 : Hid (Blk (wx.drew.alloc (.cells #[.string xk, .string xv] 59)) wx.drew.heap.size 59 (pc2 ⟨xk, xv⟩)) := Lib.hid (Blk.new _ _ _)
              have V21 : Hid (Turn (fun k => w3.heap.size < k) wx (wx.drew.alloc (.cells #[.string xk, .string xv] 59))) := Lib.hid (V20.out.alloc _)
              have RA21 := Lib.hid (own_still_ RA20.out ((Turn.refl (fun _ => False) wx.drew).alloc (.cells #[.string xk, .string xv] 59)))
              have RB21 := Lib.hid (own_still_ RB20.out ((Turn.refl (fun _ => False) wx.drew).alloc (.cells #[.string xk, .string xv] 59)))
              obtain ⟨b21, hb21⟩ : ∃ b, wx.drew.heap.size = b := ⟨_, rfl⟩
              rw [hb21] at NB21 ⊢
              clear hb21
              obtain ⟨w21, hw21⟩ : ∃ X, wx.drew.alloc (.cells #[.string xk, .string xv] 59) = X := ⟨_, rfl⟩
              rw [hw21] at NB21 V21 RA21 RB21 ⊢
              clear hw21
              refine hK.out _ _ V21.out (fun hHeld => ?_)
              clear hHeld hK K
              try simp only [List.getElem_toArray, List.getElem_cons_zero, List.getElem_cons_succ, Act.put, List.setIfInBounds_toArray, List.set_cons_zero, List.set_cons_succ]
              refine wpAnyH_ready (rs := [5, 12]) (by kernel_rfl) (by simp) ?_
              refine AllReadyH.cons rfl (fun K hK => ?_) (AllReadyH.cons rfl (fun K hK => ?_) AllReadyH.nil)
              · refine step_app_rc17 rfl _ _ 44 rfl (w3.heap.size + 1) 59 _ 2 32 Try.underlying44 info_sp16 rfl (by decide) (.slice A n c) n (O.flatMap pc2) rfl (by have := RA21.out; rw [HNO.out] at this; exact this) (some ⟨b21, 0, none⟩) 1 1 (pc2 ⟨xk, xv⟩) rfl rfl NB21.out.rc (fun u hu => by simp [pc2] at hu; rcases hu with rfl | rfl <;> rfl) (by unfold maxLen; omega) (by omega) (by have := V21.out.size; have := MO.out.x.lt; omega) ?_
                intro A7 c7 w22 ho ht hv
                have RA22 := Lib.hid ho
                have RB22 := Lib.hid (own_tn16 RB21.out ht (fun k hk e => MO.out.ne k e hk))
                have V22 : Hid (Turn (fun k => w3.heap.size < k) wx w22) := Lib.hid (V21.out.trans (ht.mono (fun k _ e => by have := (own_ge9 RA21.out k e).1; omega)))
                clear ho ht hv
                refine hK.out _ _ V22.out (fun hHeld => ?_)
                clear hHeld hK K
                try simp only [List.getElem_toArray, List.getElem_cons_zero, List.getElem_cons_succ, Act.put, List.setIfInBounds_toArray, List.set_cons_zero, List.set_cons_succ]
                refine wpAnyH_ready (rs := [7, 12]) (by kernel_rfl) (by simp) ?_
                refine AllReadyH.cons rfl (fun K hK => ?_) (AllReadyH.cons rfl (fun K hK => ?_) AllReadyH.nil)
                · refine step_app_rc17 rfl _ _ 44 rfl (w3.heap.size + 1) 59 _ 2 32 Try.underlying44 info_sp16 rfl (by decide) (.slice A7 (n + 1) c7) (n + 1) (O.flatMap pc2 ++ pc2 ⟨xk, xv⟩) rfl RA22.out D m d (B.flatMap pc2) rfl (by rw [flat_len pc2_len, HMB.out]) (by have := RB22.out; rw [HMB.out] at this; exact rc_own this) (pc2_one _) (by unfold maxLen; omega) (by omega) (by have := V22.out.size; have := MO.out.x.lt; omega) ?_
                  intro A8 c8 w23 ho ht hv
                  rw [HFL.out] at ho
                  have HC8 : Hid ((n + 1 + m) ≤ c8) := Lib.hid (own_cap16 ho)
                  have PX23 : Hid (Px w23 (.slice A8 (n + 1 + m) c8) (tog16 S ⟨fa, fb⟩)) := Lib.hid ⟨A8, c8, by rw [HLN.out], by rw [HLN.out]; omega, rc_own ho⟩
                  have V23 : Hid (Turn (fun k => w3.heap.size < k) wx w23) := Lib.hid (V22.out.trans (ht.mono (fun k _ e => by have := (own_ge9 RA22.out k e).1; omega)))
                  clear ho ht hv
                  refine hK.out _ _ V23.out (fun hHeld => ?_)
                  clear hHeld hK K
                  try simp only [List.getElem_toArray, List.getElem_cons_zero, List.getElem_cons_succ, Act.put, List.setIfInBounds_toArray, List.set_cons_zero, List.set_cons_succ]
                  refine wpAnyH_ready (rs := [8, 12]) (by kernel_rfl) (by simp) ?_
                  refine AllReadyH.cons rfl (fun K hK => ?_) (AllReadyH.cons rfl (fun K hK => ?_) AllReadyH.nil)
                  · refine step_call rfl 58 Try.f58 _ _ rfl Try.func58 (by kernel_rfl) (by kernel_rfl) _ _ ((HMA.out A8 c8 w23 PX23.out (MO.out.t.trans_new V23.out (fun k hk e => by have := MO.out.q; omega))).mono fun e W' ⟨A9, n9, c9, h1, h2, h3⟩ => (⟨_, h1, A9, n9, c9, rfl, h2, h3⟩ : ∃ v, e = .returned v ∧ ∃ A9 n9 c9, v = .tuple #[.agg #[.slice A9 n9 c9, .slice A8 (n + 1 + m) c8], .bool true] ∧ Kx W' (.slice A9 n9 c9) (mad16 (tog16 S ⟨fa, fb⟩) L) ∧ Turn (fun _ => False) w23 W')) (by go_simp) ?_
                    rintro v9 w24 ⟨A9, n9, c9, rfl, hk9, ht⟩
                    have KX24 := Lib.hid hk9
                    have PX24 := Lib.hid (PX23.out.still ht)
                    have V24 : Hid (Turn (fun k => w3.heap.size < k) wx w24) := Lib.hid (V23.out.trans (ht.mono (fun k _ h => h.elim)))
                    clear hk9 ht
                    refine hK.out _ _ V24.out (fun hHeld => ?_)
                    clear hHeld hK K
                    try simp only [List.getElem_toArray, List.getElem_cons_zero, List.getElem_cons_succ, Act.put, List.setIfInBounds_toArray, List.set_cons_zero, List.set_cons_succ]
                    refine wpAnyH_take (i := 9) (v := ?_) rfl (by kernel_rfl) (by kernel_rfl) (by kernel_rfl) (fun _ _ _ h => h) (Or.inl ⟨by rfl, ?_⟩) (by assumption) ?_
                    rotate_left 1
                    · intro w' hSw
                      go_simp
                      all_goals first | with_reducible rfl | (rw [if_neg (by omega)]; done) | (rw [if_pos (by omega)]; done)
                    try simp only [List.getElem_toArray, List.getElem_cons_zero, List.getElem_cons_succ, Act.put, List.setIfInBounds_toArray, List.set_cons_zero, List.set_cons_succ]
                    refine wpAnyH_take (i := 10) (v := ?_) rfl (by kernel_rfl) (by kernel_rfl) (by kernel_rfl) (fun _ _ _ h => h) (Or.inl ⟨by rfl, ?_⟩) (by assumption) ?_
                    rotate_left 1
                    · intro w' hSw
                      go_simp
                      all_goals first | with_reducible rfl | (rw [if_neg (by omega)]; done) | (rw [if_pos (by omega)]; done)
                    try simp only [List.getElem_toArray, List.getElem_cons_zero, List.getElem_cons_succ, Act.put, List.setIfInBounds_toArray, List.set_cons_zero, List.set_cons_succ]
                    refine wpAnyH_take (i := 11) (v := ?_) rfl (by kernel_rfl) (by kernel_rfl) (by kernel_rfl) (fun _ _ _ h => h) (Or.inl ⟨by rfl, ?_⟩) (by assumption) ?_
                    rotate_left 1
                    · intro w' hSw
                      go_simp
                      all_goals first | with_reducible rfl | (rw [if_neg (by omega)]; done) | (rw [if_pos (by omega)]; done)
                    try simp only [List.getElem_toArray, List.getElem_cons_zero, List.getElem_cons_succ, Act.put, List.setIfInBounds_toArray, List.set_cons_zero, List.set_cons_succ]
                    refine wpAnyH_ready (rs := [12]) (by kernel_rfl) (by simp) ?_
                    refine AllReadyH.cons rfl (fun K hK => ?_) AllReadyH.nil
                    have P25 : Hid (Blk (w24.alloc (.cells #[.slice none 0 0, .slice none 0 0] 46)) w24.heap.size 46 [.slice none 0 0, .slice none 0 0]) := Lib.hid (Blk.new _ _ _)
                    have HP25 : Hid (w3.heap.size < w24.heap.size) := Lib.hid (by have := V24.out.size; have := MO.out.x.lt; omega)
                    have V25 : Hid (Turn (fun k => w3.heap.size < k) wx (w24.alloc (.cells #[.slice none 0 0, .slice none 0 0] 46))) := Lib.hid (V24.out.alloc _)
                    have PX25 := Lib.hid (PX24.out.still ((Turn.refl (fun _ => False) w24).alloc (.cells #[.slice none 0 0, .slice none 0 0] 46)))
                    have KX25 := Lib.hid (KX24.out.still ((Turn.refl (fun _ => False) w24).alloc (.cells #[.slice none 0 0, .slice none 0 0] 46)))
                    go_simp
                    obtain ⟨p25, hp25⟩ : ∃ b, w24.heap.size = b := ⟨_, rfl⟩
                    rw [hp25] at P25 HP25 ⊢
                    clear hp25
                    obtain ⟨w25, hw25⟩ : ∃ X, w24.alloc (.cells #[.slice none 0 0, .slice none 0 0] 46) = X := ⟨_, rfl⟩
                    rw [hw25] at P25 V25 PX25 KX25 ⊢
                    clear hw25
                    refine hK.out _ _ V25.out (fun hHeld => ?_)
                    clear hHeld hK K
                    try simp only [List.getElem_toArray, List.getElem_cons_zero, List.getElem_cons_succ, Act.put, List.setIfInBounds_toArray, List.set_cons_zero, List.set_cons_succ]
                    refine wpAnyH_ready (rs := [13]) (by kernel_rfl) (by simp) ?_
                    refine AllReadyH.cons rfl (fun K hK => ?_) AllReadyH.nil
                    obtain ⟨r0, r1⟩ := cells2b16 P25.out
                    obtain ⟨f0, f1⟩ := free2_16 P25.out
                    obtain ⟨hbz, htz⟩ := put2_16 P25.out (.slice A9 n9 c9) (.slice A8 (n + 1 + m) c8)
                    have PZ := Lib.hid (Px.off16c PX25.out P25.out two_slices16 htz)
                    have KZ := Lib.hid (Kx.off16 KX25.out P25.out two_slices16 htz)
                    have VZ : Hid (Turn (fun k => w3.heap.size < k) wx _) := Lib.hid (V25.out.trans (htz.mono (fun k _ e => by have := HP25.out; omega)))
                    have QZ := Lib.hid hbz
                    clear hbz htz
                    go_simp
                    obtain ⟨wz, hwz⟩ : ∃ X, (w25.setCell ⟨p25, 0, none⟩ (.slice A9 n9 c9)).setCell ⟨p25, 1, none⟩ (.slice A8 (n + 1 + m) c8) = X := ⟨_, rfl⟩
                    rw [hwz] at VZ PZ KZ QZ ⊢
                    refine hK.out _ _ VZ.out (fun hHeld => ?_)
                    clear hHeld hK K
                    try simp only [List.getElem_toArray, List.getElem_cons_zero, List.getElem_cons_succ, Act.put, List.setIfInBounds_toArray, List.set_cons_zero, List.set_cons_succ]
                    refine wpAnyH_take (i := 14) (v := ?_) rfl (by kernel_rfl) (by kernel_rfl) (by kernel_rfl) (fun _ _ _ h => h) (Or.inl ⟨by rfl, ?_⟩) (by assumption) ?_
                    rotate_left 1
                    · intro w' hSw
                      go_simp
                      all_goals first | with_reducible rfl | (rw [if_neg (by omega)]; done) | (rw [if_pos (by omega)]; done)
                    try simp only [List.getElem_toArray, List.getElem_cons_zero, List.getElem_cons_succ, Act.put, List.setIfInBounds_toArray, List.set_cons_zero, List.set_cons_succ]
                    refine wpAnyH_done (by kernel_rfl) ?_ _
                    refine NoPanic.normal ?_
                    have GZ := Lib.hid (MO.out.g.turn VZ.out (fun h => by have := MO.out.q; omega))
                    have DZ : Hid (Turn (fun _ => False) w wz) := Lib.hid (MO.out.t.trans_new VZ.out (fun k hk e => by have := MO.out.q; omega))
                    obtain ⟨q0, q1⟩ := cells2b16 QZ.out
                    obtain ⟨g0, g1⟩ := cells2b16 GZ.out
                    obtain ⟨h0, h1⟩ := free2_16 GZ.out
                    clear hwz
                    go_wp2_with fail
                    obtain ⟨hb9, hs9⟩ := put2_16 GZ.out (.slice A9 n9 c9) (.slice A8 (n + 1 + m) c8)
                    obtain ⟨e0, e1⟩ := cells2b16 hb9
                    refine bodyPost_ret (v := .tuple #[.agg #[.slice A9 n9 c9, .slice A8 (n + 1 + m) c8], .int .i64 0]) (by simp [results, Try.results22, go_sem, e0, e1]) rfl ⟨A9, n9, c9, A8, _, c8, rfl, KZ.out.off16 GZ.out two_slices16 hs9, Px.off16c PZ.out GZ.out two_slices16 hs9, HC8.out, DZ.out.trans_new hs9 (fun k hk e => by omega)⟩
                  · have P27 : Hid (Blk (w23.alloc (.cells #[.slice none 0 0, .slice none 0 0] 46)) w23.heap.size 46 [.slice none 0 0, .slice none 0 0]) := Lib.hid (Blk.new _ _ _)
                    have HP27 : Hid (w3.heap.size < w23.heap.size) := Lib.hid (by have := V23.out.size; have := MO.out.x.lt; omega)
                    have V27 : Hid (Turn (fun k => w3.heap.size < k) wx (w23.alloc (.cells #[.slice none 0 0, .slice none 0 0] 46))) := Lib.hid (V23.out.alloc _)
                    have PX27 := Lib.hid (PX23.out.still ((Turn.refl (fun _ => False) w23).alloc (.cells #[.slice none 0 0, .slice none 0 0] 46)))
                    go_simp
                    obtain ⟨p27, hp27⟩ : ∃ b, w23.heap.size = b := ⟨_, rfl⟩
                    rw [hp27] at P27 HP27 ⊢
                    clear hp27
                    obtain ⟨w27, hw27⟩ : ∃ X, w23.alloc (.cells #[.slice none 0 0, .slice none 0 0] 46) = X := ⟨_, rfl⟩
                    rw [hw27] at P27 V27 PX27 ⊢
                    clear hw27
                    refine hK.out _ _ V27.out (fun hHeld => ?_)
                    clear hHeld hK K
                    try simp only [List.getElem_toArray, List.getElem_cons_zero, List.getElem_cons_succ, Act.put, List.setIfInBounds_toArray, List.set_cons_zero, List.set_cons_succ]
                    refine wpAnyH_ready (rs := [8]) (by kernel_rfl) (by simp) ?_
                    refine AllReadyH.cons rfl (fun K hK => ?_) AllReadyH.nil
                    refine step_call rfl 58 Try.f58 _ _ rfl Try.func58 (by kernel_rfl) (by kernel_rfl) _ _ ((HMA.out A8 c8 w27 PX27.out (MO.out.t.trans_new V27.out (fun k hk e => by have := MO.out.q; omega))).mono fun e W' ⟨A9, n9, c9, h1, h2, h3⟩ => (⟨_, h1, A9, n9, c9, rfl, h2, h3⟩ : ∃ v, e = .returned v ∧ ∃ A9 n9 c9, v = .tuple #[.agg #[.slice A9 n9 c9, .slice A8 (n + 1 + m) c8], .bool true] ∧ Kx W' (.slice A9 n9 c9) (mad16 (tog16 S ⟨fa, fb⟩) L) ∧ Turn (fun _ => False) w27 W')) (by go_simp) ?_
                    rintro v9 w28 ⟨A9, n9, c9, rfl, hk9, ht⟩
                    have KX28 := Lib.hid hk9
                    have PX28 := Lib.hid (PX27.out.still ht)
                    have V28 : Hid (Turn (fun k => w3.heap.size < k) wx w28) := Lib.hid (V27.out.trans (ht.mono (fun k _ h => h.elim)))
                    have P28 := Lib.hid (P27.out.turn ht (fun h => h))
                    clear hk9 ht
                    refine hK.out _ _ V28.out (fun hHeld => ?_)
                    clear hHeld hK K
                    try simp only [List.getElem_toArray, List.getElem_cons_zero, List.getElem_cons_succ, Act.put, List.setIfInBounds_toArray, List.set_cons_zero, List.set_cons_succ]
                    refine wpAnyH_take (i := 9) (v := ?_) rfl (by kernel_rfl) (by kernel_rfl) (by kernel_rfl) (fun _ _ _ h => h) (Or.inl ⟨by rfl, ?_⟩) (by assumption) ?_
                    rotate_left 1
                    · intro w' hSw
                      go_simp
                      all_goals first | with_reducible rfl | (rw [if_neg (by omega)]; done) | (rw [if_pos (by omega)]; done)
                    try simp only [List.getElem_toArray, List.getElem_cons_zero, List.getElem_cons_succ, Act.put, List.setIfInBounds_toArray, List.set_cons_zero, List.set_cons_succ]
                    refine wpAnyH_take (i := 10) (v := ?_) rfl (by kernel_rfl) (by kernel_rfl) (by kernel_rfl) (fun _ _ _ h => h) (Or.inl ⟨by rfl, ?_⟩) (by assumption) ?_
                    rotate_left 1
                    · intro w' hSw
                      go_simp
                      all_goals first | with_reducible rfl | (rw [if_neg (by omega)]; done) | (rw [if_pos (by omega)]; done)
                    try simp only [List.getElem_toArray, List.getElem_cons_zero, List.getElem_cons_succ, Act.put, List.setIfInBounds_toArray, List.set_cons_zero, List.set_cons_succ]
                    refine wpAnyH_take (i := 11) (v := ?_) rfl (by kernel_rfl) (by kernel_rfl) (by kernel_rfl) (fun _ _ _ h => h) (Or.inl ⟨by rfl, ?_⟩) (by assumption) ?_
                    rotate_left 1
                    · intro w' hSw
                      go_simp
                      all_goals first | with_reducible rfl | (rw [if_neg (by omega)]; done) | (rw [if_pos (by omega)]; done)
                    try simp only [List.getElem_toArray, List.getElem_cons_zero, List.getElem_cons_succ, Act.put, List.setIfInBounds_toArray, List.set_cons_zero, List.set_cons_succ]
                    refine wpAnyH_ready (rs := [13]) (by kernel_rfl) (by simp) ?_
                    refine AllReadyH.cons rfl (fun K hK => ?_) AllReadyH.nil
                    obtain ⟨r0, r1⟩ := cells2b16 P28.out
                    obtain ⟨f0, f1⟩ := free2_16 P28.out
                    obtain ⟨hbz, htz⟩ := put2_16 P28.out (.slice A9 n9 c9) (.slice A8 (n + 1 + m) c8)
                    have PZ := Lib.hid (Px.off16c PX28.out P28.out two_slices16 htz)
                    have KZ := Lib.hid (Kx.off16 KX28.out P28.out two_slices16 htz)
                    have VZ : Hid (Turn (fun k => w3.heap.size < k) wx _) := Lib.hid (V28.out.trans (htz.mono (fun k _ e => by have := HP27.out; omega)))
                    have QZ := Lib.hid hbz
                    clear hbz htz
                    go_simp
                    obtain ⟨wz, hwz⟩ : ∃ X, (w28.setCell ⟨p27, 0, none⟩ (.slice A9 n9 c9)).setCell ⟨p27, 1, none⟩ (.slice A8 (n + 1 + m) c8) = X := ⟨_, rfl⟩
                    rw [hwz] at VZ PZ KZ QZ ⊢
                    refine hK.out _ _ VZ.out (fun hHeld => ?_)
                    clear hHeld hK K
                    try simp only [List.getElem_toArray, List.getElem_cons_zero, List.getElem_cons_succ, Act.put, List.setIfInBounds_toArray, List.set_cons_zero, List.set_cons_succ]
                    refine wpAnyH_take (i := 14) (v := ?_) rfl (by kernel_rfl) (by kernel_rfl) (by kernel_rfl) (fun _ _ _ h => h) (Or.inl ⟨by rfl, ?_⟩) (by assumption) ?_
                    rotate_left 1
                    · intro w' hSw
                      go_simp
                      all_goals first | with_reducible rfl | (rw [if_neg (by omega)]; done) | (rw [if_pos (by omega)]; done)
                    try simp only [List.getElem_toArray, List.getElem_cons_zero, List.getElem_cons_succ, Act.put, List.setIfInBounds_toArray, List.set_cons_zero, List.set_cons_succ]
                    refine wpAnyH_done (by kernel_rfl) ?_ _
                    refine NoPanic.normal ?_
                    have GZ := Lib.hid (MO.out.g.turn VZ.out (fun h => by have := MO.out.q; omega))
                    have DZ : Hid (Turn (fun _ => False) w wz) := Lib.hid (MO.out.t.trans_new VZ.out (fun k hk e => by have := MO.out.q; omega))
                    obtain ⟨q0, q1⟩ := cells2b16 QZ.out
                    obtain ⟨g0, g1⟩ := cells2b16 GZ.out
                    obtain ⟨h0, h1⟩ := free2_16 GZ.out
                    clear hwz
                    go_wp2_with fail
                    obtain ⟨hb9, hs9⟩ := put2_16 GZ.out (.slice A9 n9 c9) (.slice A8 (n + 1 + m) c8)
                    obtain ⟨e0, e1⟩ := cells2b16 hb9
                    refine bodyPost_ret (v := .tuple #[.agg #[.slice A9 n9 c9, .slice A8 (n + 1 + m) c8], .int .i64 0]) (by simp [results, Try.results22, go_sem, e0, e1]) rfl ⟨A9, n9, c9, A8, _, c8, rfl, KZ.out.off16 GZ.out two_slices16 hs9, Px.off16c PZ.out GZ.out two_slices16 hs9, HC8.out, DZ.out.trans_new hs9 (fun k hk e => by omega)⟩
                · have P30 : Hid (Blk (w22.alloc (.cells #[.slice none 0 0, .slice none 0 0] 46)) w22.heap.size 46 [.slice none 0 0, .slice none 0 0]) := Lib.hid (Blk.new _ _ _)
                  have HP30 : Hid (w3.heap.size < w22.heap.size) := Lib.hid (by have := V22.out.size; have := MO.out.x.lt; omega)
                  have V30 : Hid (Turn (fun k => w3.heap.size < k) wx (w22.alloc (.cells #[.slice none 0 0, .slice none 0 0] 46))) := Lib.hid (V22.out.alloc _)
                  have PA30 : Hid (∀ k, (Value.slice A7 (n + 1) c7).ownBlock = some k → k ≠ w22.heap.size) := Lib.hid (fun k hk e => by have := (own_ge9 RA22.out k hk).2; omega)
                  have RA30 := Lib.hid (own_still_ RA22.out ((Turn.refl (fun _ => False) w22).alloc (.cells #[.slice none 0 0, .slice none 0 0] 46)))
                  have RB30 := Lib.hid (own_still_ RB22.out ((Turn.refl (fun _ => False) w22).alloc (.cells #[.slice none 0 0, .slice none 0 0] 46)))
                  go_simp
                  obtain ⟨p30, hp30⟩ : ∃ b, w22.heap.size = b := ⟨_, rfl⟩
                  rw [hp30] at P30 HP30 PA30 ⊢
                  clear hp30
                  obtain ⟨w30, hw30⟩ : ∃ X, w22.alloc (.cells #[.slice none 0 0, .slice none 0 0] 46) = X := ⟨_, rfl⟩
                  rw [hw30] at P30 V30 RA30 RB30 ⊢
                  clear hw30
                  refine hK.out _ _ V30.out (fun hHeld => ?_)
                  clear hHeld hK K
                  try simp only [List.getElem_toArray, List.getElem_cons_zero, List.getElem_cons_succ, Act.put, List.setIfInBounds_toArray, List.set_cons_zero, List.set_cons_succ]
                  refine wpAnyH_ready (rs := [7]) (by kernel_rfl) (by simp) ?_
                  refine AllReadyH.cons rfl (fun K hK => ?_) AllReadyH.nil
                  refine step_app_rc17 rfl _ _ 44 rfl (w3.heap.size + 1) 59 _ 2 32 Try.underlying44 info_sp16 rfl (by decide) (.slice A7 (n + 1) c7) (n + 1) (O.flatMap pc2 ++ pc2 ⟨xk, xv⟩) rfl RA30.out D m d (B.flatMap pc2) rfl (by rw [flat_len pc2_len, HMB.out]) (by have := RB30.out; rw [HMB.out] at this; exact rc_own this) (pc2_one _) (by unfold maxLen; omega) (by omega) (by have := V30.out.size; have := MO.out.x.lt; omega) ?_
                  intro A8 c8 w31 ho ht hv
                  rw [HFL.out] at ho
                  have HC8 : Hid ((n + 1 + m) ≤ c8) := Lib.hid (own_cap16 ho)
                  have PX31 : Hid (Px w31 (.slice A8 (n + 1 + m) c8) (tog16 S ⟨fa, fb⟩)) := Lib.hid ⟨A8, c8, by rw [HLN.out], by rw [HLN.out]; omega, rc_own ho⟩
                  have V31 : Hid (Turn (fun k => w3.heap.size < k) wx w31) := Lib.hid (V30.out.trans (ht.mono (fun k _ e => by have := (own_ge9 RA30.out k e).1; omega)))
                  have P31 := Lib.hid (P30.out.turn ht (fun e => PA30.out _ e rfl))
                  clear ho ht hv
                  refine hK.out _ _ V31.out (fun hHeld => ?_)
                  clear hHeld hK K
                  try simp only [List.getElem_toArray, List.getElem_cons_zero, List.getElem_cons_succ, Act.put, List.setIfInBounds_toArray, List.set_cons_zero, List.set_cons_succ]
                  refine wpAnyH_ready (rs := [8]) (by kernel_rfl) (by simp) ?_
                  refine AllReadyH.cons rfl (fun K hK => ?_) AllReadyH.nil
                  refine step_call rfl 58 Try.f58 _ _ rfl Try.func58 (by kernel_rfl) (by kernel_rfl) _ _ ((HMA.out A8 c8 w31 PX31.out (MO.out.t.trans_new V31.out (fun k hk e => by have := MO.out.q; omega))).mono fun e W' ⟨A9, n9, c9, h1, h2, h3⟩ => (⟨_, h1, A9, n9, c9, rfl, h2, h3⟩ : ∃ v, e = .returned v ∧ ∃ A9 n9 c9, v = .tuple #[.agg #[.slice A9 n9 c9, .slice A8 (n + 1 + m) c8], .bool true] ∧ Kx W' (.slice A9 n9 c9) (mad16 (tog16 S ⟨fa, fb⟩) L) ∧ Turn (fun _ => False) w31 W')) (by go_simp) ?_
                  rintro v9 w32 ⟨A9, n9, c9, rfl, hk9, ht⟩
                  have KX32 := Lib.hid hk9
                  have PX32 := Lib.hid (PX31.out.still ht)
                  have V32 : Hid (Turn (fun k => w3.heap.size < k) wx w32) := Lib.hid (V31.out.trans (ht.mono (fun k _ h => h.elim)))
                  have P32 := Lib.hid (P31.out.turn ht (fun h => h))
                  clear hk9 ht
                  refine hK.out _ _ V32.out (fun hHeld => ?_)
                  clear hHeld hK K
                  try simp only [List.getElem_toArray, List.getElem_cons_zero, List.getElem_cons_succ, Act.put, List.setIfInBounds_toArray, List.set_cons_zero, List.set_cons_succ]
                  refine wpAnyH_take (i := 9) (v := ?_) rfl (by kernel_rfl) (by kernel_rfl) (by kernel_rfl) (fun _ _ _ h => h) (Or.inl ⟨by rfl, ?_⟩) (by assumption) ?_
                  rotate_left 1
                  · intro w' hSw
                    go_simp
                    all_goals first | with_reducible rfl | (rw [if_neg (by omega)]; done) | (rw [if_pos (by omega)]; done)
                  try simp only [List.getElem_toArray, List.getElem_cons_zero, List.getElem_cons_succ, Act.put, List.setIfInBounds_toArray, List.set_cons_zero, List.set_cons_succ]
                  refine wpAnyH_take (i := 10) (v := ?_) rfl (by kernel_rfl) (by kernel_rfl) (by kernel_rfl) (fun _ _ _ h => h) (Or.inl ⟨by rfl, ?_⟩) (by assumption) ?_
                  rotate_left 1
                  · intro w' hSw
                    go_simp
                    all_goals first | with_reducible rfl | (rw [if_neg (by omega)]; done) | (rw [if_pos (by omega)]; done)
                  try simp only [List.getElem_toArray, List.getElem_cons_zero, List.getElem_cons_succ, Act.put, List.setIfInBounds_toArray, List.set_cons_zero, List.set_cons_succ]
                  refine wpAnyH_take (i := 11) (v := ?_) rfl (by kernel_rfl) (by kernel_rfl) (by kernel_rfl) (fun _ _ _ h => h) (Or.inl ⟨by rfl, ?_⟩) (by assumption) ?_
                  rotate_left 1
                  · intro w' hSw
                    go_simp
                    all_goals first | with_reducible rfl | (rw [if_neg (by omega)]; done) | (rw [if_pos (by omega)]; done)
                  try simp only [List.getElem_toArray, List.getElem_cons_zero, List.getElem_cons_succ, Act.put, List.setIfInBounds_toArray, List.set_cons_zero, List.set_cons_succ]
                  refine wpAnyH_ready (rs := [13]) (by kernel_rfl) (by simp) ?_
                  refine AllReadyH.cons rfl (fun K hK => ?_) AllReadyH.nil
                  obtain ⟨r0, r1⟩ := cells2b16 P32.out
                  obtain ⟨f0, f1⟩ := free2_16 P32.out
                  obtain ⟨hbz, htz⟩ := put2_16 P32.out (.slice A9 n9 c9) (.slice A8 (n + 1 + m) c8)
                  have PZ := Lib.hid (Px.off16c PX32.out P32.out two_slices16 htz)
                  have KZ := Lib.hid (Kx.off16 KX32.out P32.out two_slices16 htz)
                  have VZ : Hid (Turn (fun k => w3.heap.size < k) wx _) := Lib.hid (V32.out.trans (htz.mono (fun k _ e => by have := HP30.out; omega)))
                  have QZ := Lib.hid hbz
                  clear hbz htz
                  go_simp
                  obtain ⟨wz, hwz⟩ : ∃ X, (w32.setCell ⟨p30, 0, none⟩ (.slice A9 n9 c9)).setCell ⟨p30, 1, none⟩ (.slice A8 (n + 1 + m) c8) = X := ⟨_, rfl⟩
                  rw [hwz] at VZ PZ KZ QZ ⊢
                  refine hK.out _ _ VZ.out (fun hHeld => ?_)
                  clear hHeld hK K
                  try simp only [List.getElem_toArray, List.getElem_cons_zero, List.getElem_cons_succ, Act.put, List.setIfInBounds_toArray, List.set_cons_zero, List.set_cons_succ]
                  refine wpAnyH_take (i := 14) (v := ?_) rfl (by kernel_rfl) (by kernel_rfl) (by kernel_rfl) (fun _ _ _ h => h) (Or.inl ⟨by rfl, ?_⟩) (by assumption) ?_
                  rotate_left 1
                  · intro w' hSw
                    go_simp
                    all_goals first | with_reducible rfl | (rw [if_neg (by omega)]; done) | (rw [if_pos (by omega)]; done)
                  try simp only [List.getElem_toArray, List.getElem_cons_zero, List.getElem_cons_succ, Act.put, List.setIfInBounds_toArray, List.set_cons_zero, List.set_cons_succ]
                  refine wpAnyH_done (by kernel_rfl) ?_ _
                  refine NoPanic.normal ?_
                  have GZ := Lib.hid (MO.out.g.turn VZ.out (fun h => by have := MO.out.q; omega))
                  have DZ : Hid (Turn (fun _ => False) w wz) := Lib.hid (MO.out.t.trans_new VZ.out (fun k hk e => by have := MO.out.q; omega))
                  obtain ⟨q0, q1⟩ := cells2b16 QZ.out
                  obtain ⟨g0, g1⟩ := cells2b16 GZ.out
                  obtain ⟨h0, h1⟩ := free2_16 GZ.out
                  clear hwz
                  go_wp2_with fail
                  obtain ⟨hb9, hs9⟩ := put2_16 GZ.out (.slice A9 n9 c9) (.slice A8 (n + 1 + m) c8)
                  obtain ⟨e0, e1⟩ := cells2b16 hb9
                  refine bodyPost_ret (v := .tuple #[.agg #[.slice A9 n9 c9, .slice A8 (n + 1 + m) c8], .int .i64 0]) (by simp [results, Try.results22, go_sem, e0, e1]) rfl ⟨A9, n9, c9, A8, _, c8, rfl, KZ.out.off16 GZ.out two_slices16 hs9, Px.off16c PZ.out GZ.out two_slices16 hs9, HC8.out, DZ.out.trans_new hs9 (fun k hk e => by omega)⟩
              · have P34 : Hid (Blk (w21.alloc (.cells #[.slice none 0 0, .slice none 0 0] 46)) w21.heap.size 46 [.slice none 0 0, .slice none 0 0]) := Lib.hid (Blk.new _ _ _)
                have HP34 : Hid (w3.heap.size < w21.heap.size) := Lib.hid (by have := V21.out.size; have := MO.out.x.lt; omega)
                have V34 : Hid (Turn (fun k => w3.heap.size < k) wx (w21.alloc (.cells #[.slice none 0 0, .slice none 0 0] 46))) := Lib.hid (V21.out.alloc _)
                have PA34 : Hid (∀ k, (Value.slice A n c).ownBlock = some k → k ≠ w21.heap.size) := Lib.hid (fun k hk e => by have := (own_ge9 RA21.out k hk).2; omega)
                have RA34 := Lib.hid (own_still_ RA21.out ((Turn.refl (fun _ => False) w21).alloc (.cells #[.slice none 0 0, .slice none 0 0] 46)))
                have RB34 := Lib.hid (own_still_ RB21.out ((Turn.refl (fun _ => False) w21).alloc (.cells #[.slice none 0 0, .slice none 0 0] 46)))
                have NB34 := Lib.hid (NB21.out.alloc (.cells #[.slice none 0 0, .slice none 0 0] 46))
                go_simp
                obtain ⟨p34, hp34⟩ : ∃ b, w21.heap.size = b := ⟨_, rfl⟩
                rw [hp34] at P34 HP34 PA34 ⊢
                clear hp34
                obtain ⟨w34, hw34⟩ : ∃ X, w21.alloc (.cells #[.slice none 0 0, .slice none 0 0] 46) = X := ⟨_, rfl⟩
                rw [hw34] at P34 V34 RA34 RB34 NB34 ⊢
                clear hw34
                refine hK.out _ _ V34.out (fun hHeld => ?_)
                clear hHeld hK K
                try simp only [List.getElem_toArray, List.getElem_cons_zero, List.getElem_cons_succ, Act.put, List.setIfInBounds_toArray, List.set_cons_zero, List.set_cons_succ]
                refine wpAnyH_ready (rs := [5]) (by kernel_rfl) (by simp) ?_
                refine AllReadyH.cons rfl (fun K hK => ?_) AllReadyH.nil
                refine step_app_rc17 rfl _ _ 44 rfl (w3.heap.size + 1) 59 _ 2 32 Try.underlying44 info_sp16 rfl (by decide) (.slice A n c) n (O.flatMap pc2) rfl (by have := RA34.out; rw [HNO.out] at this; exact this) (some ⟨b21, 0, none⟩) 1 1 (pc2 ⟨xk, xv⟩) rfl rfl NB34.out.rc (fun u hu => by simp [pc2] at hu; rcases hu with rfl | rfl <;> rfl) (by unfold maxLen; omega) (by omega) (by have := V34.out.size; have := MO.out.x.lt; omega) ?_
                intro A7 c7 w35 ho ht hv
                have RA35 := Lib.hid ho
                have RB35 := Lib.hid (own_tn16 RB34.out ht (fun k hk e => MO.out.ne k e hk))
                have V35 : Hid (Turn (fun k => w3.heap.size < k) wx w35) := Lib.hid (V34.out.trans (ht.mono (fun k _ e => by have := (own_ge9 RA34.out k e).1; omega)))
                have P35 := Lib.hid (P34.out.turn ht (fun e => PA34.out _ e rfl))
                have PA35 : Hid (∀ k, (Value.slice A7 (n + 1) c7).ownBlock = some k → k ≠ p34) := Lib.hid (fun k hk e => by
                  rcases hv with hv | hv
                  · rw [hv] at hk; exact PA34.out k hk e
                  · rw [hv] at hk; injection hk with hk; have := P34.out.lt; omega)
                clear ho ht hv
                refine hK.out _ _ V35.out (fun hHeld => ?_)
                clear hHeld hK K
                try simp only [List.getElem_toArray, List.getElem_cons_zero, List.getElem_cons_succ, Act.put, List.setIfInBounds_toArray, List.set_cons_zero, List.set_cons_succ]
                refine wpAnyH_ready (rs := [7]) (by kernel_rfl) (by simp) ?_
                refine AllReadyH.cons rfl (fun K hK => ?_) AllReadyH.nil
                refine step_app_rc17 rfl _ _ 44 rfl (w3.heap.size + 1) 59 _ 2 32 Try.underlying44 info_sp16 rfl (by decide) (.slice A7 (n + 1) c7) (n + 1) (O.flatMap pc2 ++ pc2 ⟨xk, xv⟩) rfl RA35.out D m d (B.flatMap pc2) rfl (by rw [flat_len pc2_len, HMB.out]) (by have := RB35.out; rw [HMB.out] at this; exact rc_own this) (pc2_one _) (by unfold maxLen; omega) (by omega) (by have := V35.out.size; have := MO.out.x.lt; omega) ?_
                intro A8 c8 w36 ho ht hv
                rw [HFL.out] at ho
                have HC8 : Hid ((n + 1 + m) ≤ c8) := Lib.hid (own_cap16 ho)
                have PX36 : Hid (Px w36 (.slice A8 (n + 1 + m) c8) (tog16 S ⟨fa, fb⟩)) := Lib.hid ⟨A8, c8, by rw [HLN.out], by rw [HLN.out]; omega, rc_own ho⟩
                have V36 : Hid (Turn (fun k => w3.heap.size < k) wx w36) := Lib.hid (V35.out.trans (ht.mono (fun k _ e => by have := (own_ge9 RA35.out k e).1; omega)))
                have P36 := Lib.hid (P35.out.turn ht (fun e => PA35.out _ e rfl))
                clear ho ht hv
                refine hK.out _ _ V36.out (fun hHeld => ?_)
                clear hHeld hK K
                try simp only [List.getElem_toArray, List.getElem_cons_zero, List.getElem_cons_succ, Act.put, List.setIfInBounds_toArray, List.set_cons_zero, List.set_cons_succ]
                refine wpAnyH_ready (rs := [8]) (by kernel_rfl) (by simp) ?_
                refine AllReadyH.cons rfl (fun K hK => ?_) AllReadyH.nil
                refine step_call rfl 58 Try.f58 _ _ rfl Try.func58 (by kernel_rfl) (by kernel_rfl) _ _ ((HMA.out A8 c8 w36 PX36.out (MO.out.t.trans_new V36.out (fun k hk e => by have := MO.out.q; omega))).mono fun e W' ⟨A9, n9, c9, h1, h2, h3⟩ => (⟨_, h1, A9, n9, c9, rfl, h2, h3⟩ : ∃ v, e = .returned v ∧ ∃ A9 n9 c9, v = .tuple #[.agg #[.slice A9 n9 c9, .slice A8 (n + 1 + m) c8], .bool true] ∧ Kx W' (.slice A9 n9 c9) (mad16 (tog16 S ⟨fa, fb⟩) L) ∧ Turn (fun _ => False) w36 W')) (by go_simp) ?_
                rintro v9 w37 ⟨A9, n9, c9, rfl, hk9, ht⟩
                have KX37 := Lib.hid hk9
                have PX37 := Lib.hid (PX36.out.still ht)
                have V37 : Hid (Turn (fun k => w3.heap.size < k) wx w37) := Lib.hid (V36.out.trans (ht.mono (fun k _ h => h.elim)))
                have P37 := Lib.hid (P36.out.turn ht (fun h => h))
                clear hk9 ht
                refine hK.out _ _ V37.out (fun hHeld => ?_)
                clear hHeld hK K
                try simp only [List.getElem_toArray, List.getElem_cons_zero, List.getElem_cons_succ, Act.put, List.setIfInBounds_toArray, List.set_cons_zero, List.set_cons_succ]
                refine wpAnyH_take (i := 9) (v := ?_) rfl (by kernel_rfl) (by kernel_rfl) (by kernel_rfl) (fun _ _ _ h => h) (Or.inl ⟨by rfl, ?_⟩) (by assumption) ?_
                rotate_left 1
                · intro w' hSw
                  go_simp
                  all_goals first | with_reducible rfl | (rw [if_neg (by omega)]; done) | (rw [if_pos (by omega)]; done)
                try simp only [List.getElem_toArray, List.getElem_cons_zero, List.getElem_cons_succ, Act.put, List.setIfInBounds_toArray, List.set_cons_zero, List.set_cons_succ]
                refine wpAnyH_take (i := 10) (v := ?_) rfl (by kernel_rfl) (by kernel_rfl) (by kernel_rfl) (fun _ _ _ h => h) (Or.inl ⟨by rfl, ?_⟩) (by assumption) ?_
                rotate_left 1
                · intro w' hSw
                  go_simp
                  all_goals first | with_reducible rfl | (rw [if_neg (by omega)]; done) | (rw [if_pos (by omega)]; done)
                try simp only [List.getElem_toArray, List.getElem_cons_zero, List.getElem_cons_succ, Act.put, List.setIfInBounds_toArray, List.set_cons_zero, List.set_cons_succ]
                refine wpAnyH_take (i := 11) (v := ?_) rfl (by kernel_rfl) (by kernel_rfl) (by kernel_rfl) (fun _ _ _ h => h) (Or.inl ⟨by rfl, ?_⟩) (by assumption) ?_
                rotate_left 1
                · intro w' hSw
                  go_simp
                  all_goals first | with_reducible rfl | (rw [if_neg (by omega)]; done) | (rw [if_pos (by omega)]; done)
                try simp only [List.getElem_toArray, List.getElem_cons_zero, List.getElem_cons_succ, Act.put, List.setIfInBounds_toArray, List.set_cons_zero, List.set_cons_succ]
                refine wpAnyH_ready (rs := [13]) (by kernel_rfl) (by simp) ?_
                refine AllReadyH.cons rfl (fun K hK => ?_) AllReadyH.nil
                obtain ⟨r0, r1⟩ := cells2b16 P37.out
                obtain ⟨f0, f1⟩ := free2_16 P37.out
                obtain ⟨hbz, htz⟩ := put2_16 P37.out (.slice A9 n9 c9) (.slice A8 (n + 1 + m) c8)
                have PZ := Lib.hid (Px.off16c PX37.out P37.out two_slices16 htz)
                have KZ := Lib.hid (Kx.off16 KX37.out P37.out two_slices16 htz)
                have VZ : Hid (Turn (fun k => w3.heap.size < k) wx _) := Lib.hid (V37.out.trans (htz.mono (fun k _ e => by have := HP34.out; omega)))
                have QZ := Lib.hid hbz
                clear hbz htz
                go_simp
                obtain ⟨wz, hwz⟩ : ∃ X, (w37.setCell ⟨p34, 0, none⟩ (.slice A9 n9 c9)).setCell ⟨p34, 1, none⟩ (.slice A8 (n + 1 + m) c8) = X := ⟨_, rfl⟩
                rw [hwz] at VZ PZ KZ QZ ⊢
                refine hK.out _ _ VZ.out (fun hHeld => ?_)
                clear hHeld hK K
                try simp only [List.getElem_toArray, List.getElem_cons_zero, List.getElem_cons_succ, Act.put, List.setIfInBounds_toArray, List.set_cons_zero, List.set_cons_succ]
                refine wpAnyH_take (i := 14) (v := ?_) rfl (by kernel_rfl) (by kernel_rfl) (by kernel_rfl) (fun _ _ _ h => h) (Or.inl ⟨by rfl, ?_⟩) (by assumption) ?_
                rotate_left 1
                · intro w' hSw
                  go_simp
                  all_goals first | with_reducible rfl | (rw [if_neg (by omega)]; done) | (rw [if_pos (by omega)]; done)
                try simp only [List.getElem_toArray, List.getElem_cons_zero, List.getElem_cons_succ, Act.put, List.setIfInBounds_toArray, List.set_cons_zero, List.set_cons_succ]
                refine wpAnyH_done (by kernel_rfl) ?_ _
                refine NoPanic.normal ?_
                have GZ := Lib.hid (MO.out.g.turn VZ.out (fun h => by have := MO.out.q; omega))
                have DZ : Hid (Turn (fun _ => False) w wz) := Lib.hid (MO.out.t.trans_new VZ.out (fun k hk e => by have := MO.out.q; omega))
                obtain ⟨q0, q1⟩ := cells2b16 QZ.out
                obtain ⟨g0, g1⟩ := cells2b16 GZ.out
                obtain ⟨h0, h1⟩ := free2_16 GZ.out
                clear hwz
                go_wp2_with fail
                obtain ⟨hb9, hs9⟩ := put2_16 GZ.out (.slice A9 n9 c9) (.slice A8 (n + 1 + m) c8)
                obtain ⟨e0, e1⟩ := cells2b16 hb9
                refine bodyPost_ret (v := .tuple #[.agg #[.slice A9 n9 c9, .slice A8 (n + 1 + m) c8], .int .i64 0]) (by simp [results, Try.results22, go_sem, e0, e1]) rfl ⟨A9, n9, c9, A8, _, c8, rfl, KZ.out.off16 GZ.out two_slices16 hs9, Px.off16c PZ.out GZ.out two_slices16 hs9, HC8.out, DZ.out.trans_new hs9 (fun k hk e => by omega)⟩
            · have P39 : Hid (Blk (wx.drew.alloc (.cells #[.slice none 0 0, .slice none 0 0] 46)) wx.drew.heap.size 46 [.slice none 0 0, .slice none 0 0]) := Lib.hid (Blk.new _ _ _)
              have HP39 : Hid (w3.heap.size < wx.drew.heap.size) := Lib.hid (by have := V20.out.size; have := MO.out.x.lt; omega)
              have V39 : Hid (Turn (fun k => w3.heap.size < k) wx (wx.drew.alloc (.cells #[.slice none 0 0, .slice none 0 0] 46))) := Lib.hid (V20.out.alloc _)
              have PA39 : Hid (∀ k, (Value.slice A n c).ownBlock = some k → k ≠ wx.drew.heap.size) := Lib.hid (fun k hk e => by have := (own_ge9 RA20.out k hk).2; omega)
              have RA39 := Lib.hid (own_still_ RA20.out ((Turn.refl (fun _ => False) wx.drew).alloc (.cells #[.slice none 0 0, .slice none 0 0] 46)))
              have RB39 := Lib.hid (own_still_ RB20.out ((Turn.refl (fun _ => False) wx.drew).alloc (.cells #[.slice none 0 0, .slice none 0 0] 46)))
              go_simp
              change Hid (Blk _ wx.heap.size _ _) at P39
              change Hid (w3.heap.size < wx.heap.size) at HP39
              change Hid (∀ k, _ → k ≠ wx.heap.size) at PA39
              obtain ⟨p39, hp39⟩ : ∃ b, wx.heap.size = b := ⟨_, rfl⟩
              rw [hp39] at P39 HP39 PA39 ⊢
              clear hp39
              have ed39 : wx.drew.alloc (.cells #[.slice none 0 0, .slice none 0 0] 46) = (wx.alloc (.cells #[.slice none 0 0, .slice none 0 0] 46)).drew := rfl
              rw [ed39] at P39 V39 RA39 RB39
              clear ed39
              obtain ⟨w39, hw39⟩ : ∃ X, (wx.alloc (.cells #[.slice none 0 0, .slice none 0 0] 46)).drew = X := ⟨_, rfl⟩
              rw [hw39] at P39 V39 RA39 RB39 ⊢
              clear hw39
              refine hK.out _ _ V39.out (fun hHeld => ?_)
              clear hHeld hK K
              try simp only [List.getElem_toArray, List.getElem_cons_zero, List.getElem_cons_succ, Act.put, List.setIfInBounds_toArray, List.set_cons_zero, List.set_cons_succ]
              refine wpAnyH_ready (rs := [4]) (by kernel_rfl) (by simp) ?_
              refine AllReadyH.cons rfl (fun K hK => ?_) AllReadyH.nil
              refine step_build16 rfl 44 59 _ rfl [.string xk, .string xv] (by rfl) Try.underlying44 info_sp16 rfl ?_
              have NB40 : Hid (Blk (w39.alloc (.cells #[.string xk, .string xv] 59)) w39.heap.size 59 (pc2 ⟨xk, xv⟩)) := Lib.hid (Blk.new _ _ _)
              have V40 : Hid (Turn (fun k => w3.heap.size < k) wx (w39.alloc (.cells #[.string xk, .string xv] 59))) := Lib.hid (V39.out.alloc _)
              have RA40 := Lib.hid (own_still_ RA39.out ((Turn.refl (fun _ => False) w39).alloc (.cells #[.string xk, .string xv] 59)))
              have RB40 := Lib.hid (own_still_ RB39.out ((Turn.refl (fun _ => False) w39).alloc (.cells #[.string xk, .string xv] 59)))
              have P40 := Lib.hid (P39.out.alloc (.cells #[.string xk, .string xv] 59))
              obtain ⟨b40, hb40⟩ : ∃ b, w39.heap.size = b := ⟨_, rfl⟩
              rw [hb40] at NB40 ⊢
              clear hb40
              obtain ⟨w40, hw40⟩ : ∃ X, w39.alloc (.cells #[.string xk, .string xv] 59) = X := ⟨_, rfl⟩
              rw [hw40] at NB40 V40 RA40 RB40 P40 ⊢
              clear hw40
              refine hK.out _ _ V40.out (fun hHeld => ?_)
              clear hHeld hK K
              try simp only [List.getElem_toArray, List.getElem_cons_zero, List.getElem_cons_succ, Act.put, List.setIfInBounds_toArray, List.set_cons_zero, List.set_cons_succ]
              refine wpAnyH_ready (rs := [5]) (by kernel_rfl) (by simp) ?_
              refine AllReadyH.cons rfl (fun K hK => ?_) AllReadyH.nil
              refine step_app_rc17 rfl _ _ 44 rfl (w3.heap.size + 1) 59 _ 2 32 Try.underlying44 info_sp16 rfl (by decide) (.slice A n c) n (O.flatMap pc2) rfl (by have := RA40.out; rw [HNO.out] at this; exact this) (some ⟨b40, 0, none⟩) 1 1 (pc2 ⟨xk, xv⟩) rfl rfl NB40.out.rc (fun u hu => by simp [pc2] at hu; rcases hu with rfl | rfl <;> rfl) (by unfold maxLen; omega) (by omega) (by have := V40.out.size; have := MO.out.x.lt; omega) ?_
              intro A7 c7 w41 ho ht hv
              have RA41 := Lib.hid ho
              have RB41 := Lib.hid (own_tn16 RB40.out ht (fun k hk e => MO.out.ne k e hk))
              have V41 : Hid (Turn (fun k => w3.heap.size < k) wx w41) := Lib.hid (V40.out.trans (ht.mono (fun k _ e => by have := (own_ge9 RA40.out k e).1; omega)))
              have P41 := Lib.hid (P40.out.turn ht (fun e => PA39.out _ e rfl))
              have PA41 : Hid (∀ k, (Value.slice A7 (n + 1) c7).ownBlock = some k → k ≠ p39) := Lib.hid (fun k hk e => by
                rcases hv with hv | hv
                · rw [hv] at hk; exact PA39.out k hk e
                · rw [hv] at hk; injection hk with hk; have := P40.out.lt; omega)
              clear ho ht hv
              refine hK.out _ _ V41.out (fun hHeld => ?_)
              clear hHeld hK K
              try simp only [List.getElem_toArray, List.getElem_cons_zero, List.getElem_cons_succ, Act.put, List.setIfInBounds_toArray, List.set_cons_zero, List.set_cons_succ]
              refine wpAnyH_ready (rs := [7]) (by kernel_rfl) (by simp) ?_
              refine AllReadyH.cons rfl (fun K hK => ?_) AllReadyH.nil
              refine step_app_rc17 rfl _ _ 44 rfl (w3.heap.size + 1) 59 _ 2 32 Try.underlying44 info_sp16 rfl (by decide) (.slice A7 (n + 1) c7) (n + 1) (O.flatMap pc2 ++ pc2 ⟨xk, xv⟩) rfl RA41.out D m d (B.flatMap pc2) rfl (by rw [flat_len pc2_len, HMB.out]) (by have := RB41.out; rw [HMB.out] at this; exact rc_own this) (pc2_one _) (by unfold maxLen; omega) (by omega) (by have := V41.out.size; have := MO.out.x.lt; omega) ?_
              intro A8 c8 w42 ho ht hv
              rw [HFL.out] at ho
              have HC8 : Hid ((n + 1 + m) ≤ c8) := Lib.hid (own_cap16 ho)
              have PX42 : Hid (Px w42 (.slice A8 (n + 1 + m) c8) (tog16 S ⟨fa, fb⟩)) := Lib.hid ⟨A8, c8, by rw [HLN.out], by rw [HLN.out]; omega, rc_own ho⟩
              have V42 : Hid (Turn (fun k => w3.heap.size < k) wx w42) := Lib.hid (V41.out.trans (ht.mono (fun k _ e => by have := (own_ge9 RA41.out k e).1; omega)))
              have P42 := Lib.hid (P41.out.turn ht (fun e => PA41.out _ e rfl))
              clear ho ht hv
              refine hK.out _ _ V42.out (fun hHeld => ?_)
              clear hHeld hK K
              try simp only [List.getElem_toArray, List.getElem_cons_zero, List.getElem_cons_succ, Act.put, List.setIfInBounds_toArray, List.set_cons_zero, List.set_cons_succ]
              refine wpAnyH_ready (rs := [8]) (by kernel_rfl) (by simp) ?_
              refine AllReadyH.cons rfl (fun K hK => ?_) AllReadyH.nil
              refine step_call rfl 58 Try.f58 _ _ rfl Try.func58 (by kernel_rfl) (by kernel_rfl) _ _ ((HMA.out A8 c8 w42 PX42.out (MO.out.t.trans_new V42.out (fun k hk e => by have := MO.out.q; omega))).mono fun e W' ⟨A9, n9, c9, h1, h2, h3⟩ => (⟨_, h1, A9, n9, c9, rfl, h2, h3⟩ : ∃ v, e = .returned v ∧ ∃ A9 n9 c9, v = .tuple #[.agg #[.slice A9 n9 c9, .slice A8 (n + 1 + m) c8], .bool true] ∧ Kx W' (.slice A9 n9 c9) (mad16 (tog16 S ⟨fa, fb⟩) L) ∧ Turn (fun _ => False) w42 W')) (by go_simp) ?_
              rintro v9 w43 ⟨A9, n9, c9, rfl, hk9, ht⟩
              have KX43 := Lib.hid hk9
              have PX43 := Lib.hid (PX42.out.still ht)
              have V43 : Hid (Turn (fun k => w3.heap.size < k) wx w43) := Lib.hid (V42.out.trans (ht.mono (fun k _ h => h.elim)))
              have P43 := Lib.hid (P42.out.turn ht (fun h => h))
              clear hk9 ht
              refine hK.out _ _ V43.out (fun hHeld => ?_)
              clear hHeld hK K
              try simp only [List.getElem_toArray, List.getElem_cons_zero, List.getElem_cons_succ, Act.put, List.setIfInBounds_toArray, List.set_cons_zero, List.set_cons_succ]
              refine wpAnyH_take (i := 9) (v := ?_) rfl (by kernel_rfl) (by kernel_rfl) (by kernel_rfl) (fun _ _ _ h => h) (Or.inl ⟨by rfl, ?_⟩) (by assumption) ?_
              rotate_left 1
              · intro w' hSw
                go_simp
                all_goals first | with_reducible rfl | (rw [if_neg (by omega)]; done) | (rw [if_pos (by omega)]; done)
              try simp only [List.getElem_toArray, List.getElem_cons_zero, List.getElem_cons_succ, Act.put, List.setIfInBounds_toArray, List.set_cons_zero, List.set_cons_succ]
              refine wpAnyH_take (i := 10) (v := ?_) rfl (by kernel_rfl) (by kernel_rfl) (by kernel_rfl) (fun _ _ _ h => h) (Or.inl ⟨by rfl, ?_⟩) (by assumption) ?_
              rotate_left 1
              · intro w' hSw
                go_simp
                all_goals first | with_reducible rfl | (rw [if_neg (by omega)]; done) | (rw [if_pos (by omega)]; done)
              try simp only [List.getElem_toArray, List.getElem_cons_zero, List.getElem_cons_succ, Act.put, List.setIfInBounds_toArray, List.set_cons_zero, List.set_cons_succ]
              refine wpAnyH_take (i := 11) (v := ?_) rfl (by kernel_rfl) (by kernel_rfl) (by kernel_rfl) (fun _ _ _ h => h) (Or.inl ⟨by rfl, ?_⟩) (by assumption) ?_
              rotate_left 1
              · intro w' hSw
                go_simp
                all_goals first | with_reducible rfl | (rw [if_neg (by omega)]; done) | (rw [if_pos (by omega)]; done)
              try simp only [List.getElem_toArray, List.getElem_cons_zero, List.getElem_cons_succ, Act.put, List.setIfInBounds_toArray, List.set_cons_zero, List.set_cons_succ]
              refine wpAnyH_ready (rs := [13]) (by kernel_rfl) (by simp) ?_
              refine AllReadyH.cons rfl (fun K hK => ?_) AllReadyH.nil
              obtain ⟨r0, r1⟩ := cells2b16 P43.out
              obtain ⟨f0, f1⟩ := free2_16 P43.out
              obtain ⟨hbz, htz⟩ := put2_16 P43.out (.slice A9 n9 c9) (.slice A8 (n + 1 + m) c8)
              have PZ := Lib.hid (Px.off16c PX43.out P43.out two_slices16 htz)
              have KZ := Lib.hid (Kx.off16 KX43.out P43.out two_slices16 htz)
              have VZ : Hid (Turn (fun k => w3.heap.size < k) wx _) := Lib.hid (V43.out.trans (htz.mono (fun k _ e => by have := HP39.out; omega)))
              have QZ := Lib.hid hbz
              clear hbz htz
              go_simp
              obtain ⟨wz, hwz⟩ : ∃ X, (w43.setCell ⟨p39, 0, none⟩ (.slice A9 n9 c9)).setCell ⟨p39, 1, none⟩ (.slice A8 (n + 1 + m) c8) = X := ⟨_, rfl⟩
              rw [hwz] at VZ PZ KZ QZ ⊢
              refine hK.out _ _ VZ.out (fun hHeld => ?_)
              clear hHeld hK K
              try simp only [List.getElem_toArray, List.getElem_cons_zero, List.getElem_cons_succ, Act.put, List.setIfInBounds_toArray, List.set_cons_zero, List.set_cons_succ]
              refine wpAnyH_take (i := 14) (v := ?_) rfl (by kernel_rfl) (by kernel_rfl) (by kernel_rfl) (fun _ _ _ h => h) (Or.inl ⟨by rfl, ?_⟩) (by assumption) ?_
              rotate_left 1
              · intro w' hSw
                go_simp
                all_goals first | with_reducible rfl | (rw [if_neg (by omega)]; done) | (rw [if_pos (by omega)]; done)
              try simp only [List.getElem_toArray, List.getElem_cons_zero, List.getElem_cons_succ, Act.put, List.setIfInBounds_toArray, List.set_cons_zero, List.set_cons_succ]
              refine wpAnyH_done (by kernel_rfl) ?_ _
              refine NoPanic.normal ?_
              have GZ := Lib.hid (MO.out.g.turn VZ.out (fun h => by have := MO.out.q; omega))
              have DZ : Hid (Turn (fun _ => False) w wz) := Lib.hid (MO.out.t.trans_new VZ.out (fun k hk e => by have := MO.out.q; omega))
              obtain ⟨q0, q1⟩ := cells2b16 QZ.out
              obtain ⟨g0, g1⟩ := cells2b16 GZ.out
              obtain ⟨h0, h1⟩ := free2_16 GZ.out
              clear hwz
              go_wp2_with fail
              obtain ⟨hb9, hs9⟩ := put2_16 GZ.out (.slice A9 n9 c9) (.slice A8 (n + 1 + m) c8)
              obtain ⟨e0, e1⟩ := cells2b16 hb9
              refine bodyPost_ret (v := .tuple #[.agg #[.slice A9 n9 c9, .slice A8 (n + 1 + m) c8], .int .i64 0]) (by simp [results, Try.results22, go_sem, e0, e1]) rfl ⟨A9, n9, c9, A8, _, c8, rfl, KZ.out.off16 GZ.out two_slices16 hs9, Px.off16c PZ.out GZ.out two_slices16 hs9, HC8.out, DZ.out.trans_new hs9 (fun k hk e => by omega)⟩
          | false =>
            have hok := of_decide_eq_false hok
            have hrr := HRV.out
            rw [if_pos (by omega)] at hrr
            subst hrr
            refine wp_region_noPanic ?_
            refine wp_region_held_drew (S := (fun X => Turn (fun k => w3.heap.size < k) wx X)) (by kernel_rfl) V20.out (fun hHeld => ?_)
            clear hHeld
            refine wpAnyH_take (i := 0) (v := ?_) rfl (by kernel_rfl) (by kernel_rfl) (by kernel_rfl) (fun _ _ _ h => h) (Or.inl ⟨by rfl, ?_⟩) (by assumption) ?_
            rotate_left 1
            · intro w' hSw
              go_simp
              all_goals first | with_reducible rfl | (rw [if_neg (by omega)]; done) | (rw [if_pos (by omega)]; done)
            try simp only [List.getElem_toArray, List.getElem_cons_zero, List.getElem_cons_succ, Act.put, List.setIfInBounds_toArray, List.set_cons_zero, List.set_cons_succ]
            refine wpAnyH_take (i := 1) (v := ?_) rfl (by kernel_rfl) (by kernel_rfl) (by kernel_rfl) (fun _ _ _ h => h) (Or.inl ⟨by rfl, ?_⟩) (by assumption) ?_
            rotate_left 1
            · intro w' hSw
              obtain ⟨x0, x1⟩ := cells2b16 (MO.out.b.turn hSw (fun h => by have := MO.out.q; omega))
              go_simp
              all_goals first | with_reducible rfl | (rw [if_neg (by omega)]; done) | (rw [if_pos (by omega)]; done)
            try simp only [List.getElem_toArray, List.getElem_cons_zero, List.getElem_cons_succ, Act.put, List.setIfInBounds_toArray, List.set_cons_zero, List.set_cons_succ]
            refine wpAnyH_take (i := 2) (v := ?_) rfl (by kernel_rfl) (by kernel_rfl) (by kernel_rfl) (fun _ _ _ h => h) (Or.inl ⟨by rfl, ?_⟩) (by assumption) ?_
            rotate_left 1
            · intro w' hSw
              go_simp
              all_goals first | with_reducible rfl | (rw [if_neg (by omega)]; done) | (rw [if_pos (by omega)]; done)
            try simp only [List.getElem_toArray, List.getElem_cons_zero, List.getElem_cons_succ, Act.put, List.setIfInBounds_toArray, List.set_cons_zero, List.set_cons_succ]
            refine wpAnyH_take (i := 3) (v := ?_) rfl (by kernel_rfl) (by kernel_rfl) (by kernel_rfl) (fun _ _ _ h => h) (Or.inl ⟨by rfl, ?_⟩) (by assumption) ?_
            rotate_left 1
            · intro w' hSw
              obtain ⟨z0, z1⟩ := cells2b16 (MO.out.x.turn hSw (fun h => by omega))
              simp only at z0 z1
              go_simp
              all_goals first | with_reducible rfl | (rw [if_neg (by omega)]; done) | (rw [if_pos (by omega)]; done)
            try simp only [List.getElem_toArray, List.getElem_cons_zero, List.getElem_cons_succ, Act.put, List.setIfInBounds_toArray, List.set_cons_zero, List.set_cons_succ]
            refine wpAnyH_take (i := 6) (v := ?_) rfl (by kernel_rfl) (by kernel_rfl) (by kernel_rfl) (fun _ _ _ h => h) (Or.inl ⟨by rfl, ?_⟩) (by assumption) ?_
            rotate_left 1
            · intro w' hSw
              go_simp
              all_goals first | with_reducible rfl | (rw [if_neg (by omega)]; done) | (rw [if_pos (by omega)]; done)
            try simp only [List.getElem_toArray, List.getElem_cons_zero, List.getElem_cons_succ, Act.put, List.setIfInBounds_toArray, List.set_cons_zero, List.set_cons_succ]
            refine wpAnyH_ready (rs := [4, 12]) (by kernel_rfl) (by simp) ?_
            refine AllReadyH.cons rfl (fun K hK => ?_) (AllReadyH.cons rfl (fun K hK => ?_) AllReadyH.nil)
            · refine step_build16 rfl 44 59 _ rfl [.string xk, .string xv] (by rfl) Try.underlying44 info_sp16 rfl ?_
              have NB21 : Hid (Blk (wx.drew.alloc (.cells #[.string xk, .string xv] 59)) wx.drew.heap.size 59 (pc2 ⟨xk, xv⟩)) := Lib.hid (Blk.new _ _ _)
              have V21 : Hid (Turn (fun k => w3.heap.size < k) wx (wx.drew.alloc (.cells #[.string xk, .string xv] 59))) := Lib.hid (V20.out.alloc _)
              have RA21 := Lib.hid (own_still_ RA20.out ((Turn.refl (fun _ => False) wx.drew).alloc (.cells #[.string xk, .string xv] 59)))
              have RB21 := Lib.hid (own_still_ RB20.out ((Turn.refl (fun _ => False) wx.drew).alloc (.cells #[.string xk, .string xv] 59)))
              obtain ⟨b21, hb21⟩ : ∃ b, wx.drew.heap.size = b := ⟨_, rfl⟩
              rw [hb21] at NB21 ⊢
              clear hb21
              obtain ⟨w21, hw21⟩ : ∃ X, wx.drew.alloc (.cells #[.string xk, .string xv] 59) = X := ⟨_, rfl⟩
              rw [hw21] at NB21 V21 RA21 RB21 ⊢
              clear hw21
              refine hK.out _ _ V21.out (fun hHeld => ?_)
              clear hHeld hK K
              try simp only [List.getElem_toArray, List.getElem_cons_zero, List.getElem_cons_succ, Act.put, List.setIfInBounds_toArray, List.set_cons_zero, List.set_cons_succ]
              refine wpAnyH_ready (rs := [5, 12]) (by kernel_rfl) (by simp) ?_
              refine AllReadyH.cons rfl (fun K hK => ?_) (AllReadyH.cons rfl (fun K hK => ?_) AllReadyH.nil)
              · refine step_app_rc17 rfl _ _ 44 rfl (w3.heap.size + 1) 59 _ 2 32 Try.underlying44 info_sp16 rfl (by decide) (.slice A n c) n (O.flatMap pc2) rfl (by have := RA21.out; rw [HNO.out] at this; exact this) (some ⟨b21, 0, none⟩) 1 1 (pc2 ⟨xk, xv⟩) rfl rfl NB21.out.rc (fun u hu => by simp [pc2] at hu; rcases hu with rfl | rfl <;> rfl) (by unfold maxLen; omega) (by omega) (by have := V21.out.size; have := MO.out.x.lt; omega) ?_
                intro A7 c7 w22 ho ht hv
                have RA22 := Lib.hid ho
                have RB22 := Lib.hid (own_tn16 RB21.out ht (fun k hk e => MO.out.ne k e hk))
                have V22 : Hid (Turn (fun k => w3.heap.size < k) wx w22) := Lib.hid (V21.out.trans (ht.mono (fun k _ e => by have := (own_ge9 RA21.out k e).1; omega)))
                clear ho ht hv
                refine hK.out _ _ V22.out (fun hHeld => ?_)
                clear hHeld hK K
                try simp only [List.getElem_toArray, List.getElem_cons_zero, List.getElem_cons_succ, Act.put, List.setIfInBounds_toArray, List.set_cons_zero, List.set_cons_succ]
                refine wpAnyH_ready (rs := [7, 12]) (by kernel_rfl) (by simp) ?_
                refine AllReadyH.cons rfl (fun K hK => ?_) (AllReadyH.cons rfl (fun K hK => ?_) AllReadyH.nil)
                · refine step_app_rc17 rfl _ _ 44 rfl (w3.heap.size + 1) 59 _ 2 32 Try.underlying44 info_sp16 rfl (by decide) (.slice A7 (n + 1) c7) (n + 1) (O.flatMap pc2 ++ pc2 ⟨xk, xv⟩) rfl RA22.out D m d (B.flatMap pc2) rfl (by rw [flat_len pc2_len, HMB.out]) (by have := RB22.out; rw [HMB.out] at this; exact rc_own this) (pc2_one _) (by unfold maxLen; omega) (by omega) (by have := V22.out.size; have := MO.out.x.lt; omega) ?_
                  intro A8 c8 w23 ho ht hv
                  rw [HFL.out] at ho
                  have HC8 : Hid ((n + 1 + m) ≤ c8) := Lib.hid (own_cap16 ho)
                  have PX23 : Hid (Px w23 (.slice A8 (n + 1 + m) c8) (tog16 S ⟨fa, fb⟩)) := Lib.hid ⟨A8, c8, by rw [HLN.out], by rw [HLN.out]; omega, rc_own ho⟩
                  have V23 : Hid (Turn (fun k => w3.heap.size < k) wx w23) := Lib.hid (V22.out.trans (ht.mono (fun k _ e => by have := (own_ge9 RA22.out k e).1; omega)))
                  clear ho ht hv
                  refine hK.out _ _ V23.out (fun hHeld => ?_)
                  clear hHeld hK K
                  try simp only [List.getElem_toArray, List.getElem_cons_zero, List.getElem_cons_succ, Act.put, List.setIfInBounds_toArray, List.set_cons_zero, List.set_cons_succ]
                  refine wpAnyH_ready (rs := [8, 12]) (by kernel_rfl) (by simp) ?_
                  refine AllReadyH.cons rfl (fun K hK => ?_) (AllReadyH.cons rfl (fun K hK => ?_) AllReadyH.nil)
                  · refine step_call rfl 58 Try.f58 _ _ rfl Try.func58 (by kernel_rfl) (by kernel_rfl) _ _ ((HMA.out A8 c8 w23 PX23.out (MO.out.t.trans_new V23.out (fun k hk e => by have := MO.out.q; omega))).mono fun e W' ⟨A9, n9, c9, h1, h2, h3⟩ => (⟨_, h1, A9, n9, c9, rfl, h2, h3⟩ : ∃ v, e = .returned v ∧ ∃ A9 n9 c9, v = .tuple #[.agg #[.slice A9 n9 c9, .slice A8 (n + 1 + m) c8], .bool false] ∧ Kx W' (.slice A9 n9 c9) (mad16 (tog16 S ⟨fa, fb⟩) L) ∧ Turn (fun _ => False) w23 W')) (by go_simp) ?_
                    rintro v9 w24 ⟨A9, n9, c9, rfl, hk9, ht⟩
                    have KX24 := Lib.hid hk9
                    have PX24 := Lib.hid (PX23.out.still ht)
                    have V24 : Hid (Turn (fun k => w3.heap.size < k) wx w24) := Lib.hid (V23.out.trans (ht.mono (fun k _ h => h.elim)))
                    clear hk9 ht
                    refine hK.out _ _ V24.out (fun hHeld => ?_)
                    clear hHeld hK K
                    try simp only [List.getElem_toArray, List.getElem_cons_zero, List.getElem_cons_succ, Act.put, List.setIfInBounds_toArray, List.set_cons_zero, List.set_cons_succ]
                    refine wpAnyH_take (i := 9) (v := ?_) rfl (by kernel_rfl) (by kernel_rfl) (by kernel_rfl) (fun _ _ _ h => h) (Or.inl ⟨by rfl, ?_⟩) (by assumption) ?_
                    rotate_left 1
                    · intro w' hSw
                      go_simp
                      all_goals first | with_reducible rfl | (rw [if_neg (by omega)]; done) | (rw [if_pos (by omega)]; done)
                    try simp only [List.getElem_toArray, List.getElem_cons_zero, List.getElem_cons_succ, Act.put, List.setIfInBounds_toArray, List.set_cons_zero, List.set_cons_succ]
                    refine wpAnyH_take (i := 10) (v := ?_) rfl (by kernel_rfl) (by kernel_rfl) (by kernel_rfl) (fun _ _ _ h => h) (Or.inl ⟨by rfl, ?_⟩) (by assumption) ?_
                    rotate_left 1
                    · intro w' hSw
                      go_simp
                      all_goals first | with_reducible rfl | (rw [if_neg (by omega)]; done) | (rw [if_pos (by omega)]; done)
                    try simp only [List.getElem_toArray, List.getElem_cons_zero, List.getElem_cons_succ, Act.put, List.setIfInBounds_toArray, List.set_cons_zero, List.set_cons_succ]
                    refine wpAnyH_take (i := 11) (v := ?_) rfl (by kernel_rfl) (by kernel_rfl) (by kernel_rfl) (fun _ _ _ h => h) (Or.inl ⟨by rfl, ?_⟩) (by assumption) ?_
                    rotate_left 1
                    · intro w' hSw
                      go_simp
                      all_goals first | with_reducible rfl | (rw [if_neg (by omega)]; done) | (rw [if_pos (by omega)]; done)
                    try simp only [List.getElem_toArray, List.getElem_cons_zero, List.getElem_cons_succ, Act.put, List.setIfInBounds_toArray, List.set_cons_zero, List.set_cons_succ]
                    refine wpAnyH_ready (rs := [12]) (by kernel_rfl) (by simp) ?_
                    refine AllReadyH.cons rfl (fun K hK => ?_) AllReadyH.nil
                    have P25 : Hid (Blk (w24.alloc (.cells #[.slice none 0 0, .slice none 0 0] 46)) w24.heap.size 46 [.slice none 0 0, .slice none 0 0]) := Lib.hid (Blk.new _ _ _)
                    have HP25 : Hid (w3.heap.size < w24.heap.size) := Lib.hid (by have := V24.out.size; have := MO.out.x.lt; omega)
                    have V25 : Hid (Turn (fun k => w3.heap.size < k) wx (w24.alloc (.cells #[.slice none 0 0, .slice none 0 0] 46))) := Lib.hid (V24.out.alloc _)
                    have PX25 := Lib.hid (PX24.out.still ((Turn.refl (fun _ => False) w24).alloc (.cells #[.slice none 0 0, .slice none 0 0] 46)))
                    have KX25 := Lib.hid (KX24.out.still ((Turn.refl (fun _ => False) w24).alloc (.cells #[.slice none 0 0, .slice none 0 0] 46)))
                    go_simp
                    obtain ⟨p25, hp25⟩ : ∃ b, w24.heap.size = b := ⟨_, rfl⟩
                    rw [hp25] at P25 HP25 ⊢
                    clear hp25
                    obtain ⟨w25, hw25⟩ : ∃ X, w24.alloc (.cells #[.slice none 0 0, .slice none 0 0] 46) = X := ⟨_, rfl⟩
                    rw [hw25] at P25 V25 PX25 KX25 ⊢
                    clear hw25
                    refine hK.out _ _ V25.out (fun hHeld => ?_)
                    clear hHeld hK K
                    try simp only [List.getElem_toArray, List.getElem_cons_zero, List.getElem_cons_succ, Act.put, List.setIfInBounds_toArray, List.set_cons_zero, List.set_cons_succ]
                    refine wpAnyH_ready (rs := [13]) (by kernel_rfl) (by simp) ?_
                    refine AllReadyH.cons rfl (fun K hK => ?_) AllReadyH.nil
                    obtain ⟨r0, r1⟩ := cells2b16 P25.out
                    obtain ⟨f0, f1⟩ := free2_16 P25.out
                    obtain ⟨hbz, htz⟩ := put2_16 P25.out (.slice A9 n9 c9) (.slice A8 (n + 1 + m) c8)
                    have PZ := Lib.hid (Px.off16c PX25.out P25.out two_slices16 htz)
                    have KZ := Lib.hid (Kx.off16 KX25.out P25.out two_slices16 htz)
                    have VZ : Hid (Turn (fun k => w3.heap.size < k) wx _) := Lib.hid (V25.out.trans (htz.mono (fun k _ e => by have := HP25.out; omega)))
                    have QZ := Lib.hid hbz
                    clear hbz htz
                    go_simp
                    obtain ⟨wz, hwz⟩ : ∃ X, (w25.setCell ⟨p25, 0, none⟩ (.slice A9 n9 c9)).setCell ⟨p25, 1, none⟩ (.slice A8 (n + 1 + m) c8) = X := ⟨_, rfl⟩
                    rw [hwz] at VZ PZ KZ QZ ⊢
                    refine hK.out _ _ VZ.out (fun hHeld => ?_)
                    clear hHeld hK K
                    try simp only [List.getElem_toArray, List.getElem_cons_zero, List.getElem_cons_succ, Act.put, List.setIfInBounds_toArray, List.set_cons_zero, List.set_cons_succ]
                    refine wpAnyH_take (i := 14) (v := ?_) rfl (by kernel_rfl) (by kernel_rfl) (by kernel_rfl) (fun _ _ _ h => h) (Or.inl ⟨by rfl, ?_⟩) (by assumption) ?_
                    rotate_left 1
                    · intro w' hSw
                      go_simp
                      all_goals first | with_reducible rfl | (rw [if_neg (by omega)]; done) | (rw [if_pos (by omega)]; done)
                    try simp only [List.getElem_toArray, List.getElem_cons_zero, List.getElem_cons_succ, Act.put, List.setIfInBounds_toArray, List.set_cons_zero, List.set_cons_succ]
                    refine wpAnyH_done (by kernel_rfl) ?_ _
                    refine NoPanic.normal ?_
                    have GZ := Lib.hid (MO.out.g.turn VZ.out (fun h => by have := MO.out.q; omega))
                    have DZ : Hid (Turn (fun _ => False) w wz) := Lib.hid (MO.out.t.trans_new VZ.out (fun k hk e => by have := MO.out.q; omega))
                    obtain ⟨q0, q1⟩ := cells2b16 QZ.out
                    obtain ⟨g0, g1⟩ := cells2b16 GZ.out
                    obtain ⟨h0, h1⟩ := free2_16 GZ.out
                    clear hwz
                    go_wp2_with fail
                    obtain ⟨hb9, hs9⟩ := put2_16 GZ.out (.slice none 0 0) (.slice none 0 0)
                    obtain ⟨e0, e1⟩ := cells2b16 hb9
                    refine bodyPost_ret (v := .tuple #[.agg #[.slice none 0 0, .slice none 0 0], .int .i64 9]) (by simp [results, Try.results22, go_sem, e0, e1]) rfl ⟨none, 0, 0, none, 0, 0, rfl, kx_nil16 _, px_nil16 _, Nat.le_refl _, DZ.out.trans_new hs9 (fun k hk e => by omega)⟩
                  · have P27 : Hid (Blk (w23.alloc (.cells #[.slice none 0 0, .slice none 0 0] 46)) w23.heap.size 46 [.slice none 0 0, .slice none 0 0]) := Lib.hid (Blk.new _ _ _)
                    have HP27 : Hid (w3.heap.size < w23.heap.size) := Lib.hid (by have := V23.out.size; have := MO.out.x.lt; omega)
                    have V27 : Hid (Turn (fun k => w3.heap.size < k) wx (w23.alloc (.cells #[.slice none 0 0, .slice none 0 0] 46))) := Lib.hid (V23.out.alloc _)
                    have PX27 := Lib.hid (PX23.out.still ((Turn.refl (fun _ => False) w23).alloc (.cells #[.slice none 0 0, .slice none 0 0] 46)))
                    go_simp
                    obtain ⟨p27, hp27⟩ : ∃ b, w23.heap.size = b := ⟨_, rfl⟩
                    rw [hp27] at P27 HP27 ⊢
                    clear hp27
                    obtain ⟨w27, hw27⟩ : ∃ X, w23.alloc (.cells #[.slice none 0 0, .slice none 0 0] 46) = X := ⟨_, rfl⟩
                    rw [hw27] at P27 V27 PX27 ⊢
                    clear hw27
                    refine hK.out _ _ V27.out (fun hHeld => ?_)
                    clear hHeld hK K
                    try simp only [List.getElem_toArray, List.getElem_cons_zero, List.getElem_cons_succ, Act.put, List.setIfInBounds_toArray, List.set_cons_zero, List.set_cons_succ]
                    refine wpAnyH_ready (rs := [8]) (by kernel_rfl) (by simp) ?_
                    refine AllReadyH.cons rfl (fun K hK => ?_) AllReadyH.nil
                    refine step_call rfl 58 Try.f58 _ _ rfl Try.func58 (by kernel_rfl) (by kernel_rfl) _ _ ((HMA.out A8 c8 w27 PX27.out (MO.out.t.trans_new V27.out (fun k hk e => by have := MO.out.q; omega))).mono fun e W' ⟨A9, n9, c9, h1, h2, h3⟩ => (⟨_, h1, A9, n9, c9, rfl, h2, h3⟩ : ∃ v, e = .returned v ∧ ∃ A9 n9 c9, v = .tuple #[.agg #[.slice A9 n9 c9, .slice A8 (n + 1 + m) c8], .bool false] ∧ Kx W' (.slice A9 n9 c9) (mad16 (tog16 S ⟨fa, fb⟩) L) ∧ Turn (fun _ => False) w27 W')) (by go_simp) ?_
                    rintro v9 w28 ⟨A9, n9, c9, rfl, hk9, ht⟩
                    have KX28 := Lib.hid hk9
                    have PX28 := Lib.hid (PX27.out.still ht)
                    have V28 : Hid (Turn (fun k => w3.heap.size < k) wx w28) := Lib.hid (V27.out.trans (ht.mono (fun k _ h => h.elim)))
                    have P28 := Lib.hid (P27.out.turn ht (fun h => h))
                    clear hk9 ht
                    refine hK.out _ _ V28.out (fun hHeld => ?_)
                    clear hHeld hK K
                    try simp only [List.getElem_toArray, List.getElem_cons_zero, List.getElem_cons_succ, Act.put, List.setIfInBounds_toArray, List.set_cons_zero, List.set_cons_succ]
                    refine wpAnyH_take (i := 9) (v := ?_) rfl (by kernel_rfl) (by kernel_rfl) (by kernel_rfl) (fun _ _ _ h => h) (Or.inl ⟨by rfl, ?_⟩) (by assumption) ?_
                    rotate_left 1
                    · intro w' hSw
                      go_simp
                      all_goals first | with_reducible rfl | (rw [if_neg (by omega)]; done) | (rw [if_pos (by omega)]; done)
                    try simp only [List.getElem_toArray, List.getElem_cons_zero, List.getElem_cons_succ, Act.put, List.setIfInBounds_toArray, List.set_cons_zero, List.set_cons_succ]
                    refine wpAnyH_take (i := 10) (v := ?_) rfl (by kernel_rfl) (by kernel_rfl) (by kernel_rfl) (fun _ _ _ h => h) (Or.inl ⟨by rfl, ?_⟩) (by assumption) ?_
                    rotate_left 1
                    · intro w' hSw
                      go_simp
                      all_goals first | with_reducible rfl | (rw [if_neg (by omega)]; done) | (rw [if_pos (by omega)]; done)
                    try simp only [List.getElem_toArray, List.getElem_cons_zero, List.getElem_cons_succ, Act.put, List.setIfInBounds_toArray, List.set_cons_zero, List.set_cons_succ]
                    refine wpAnyH_take (i := 11) (v := ?_) rfl (by kernel_rfl) (by kernel_rfl) (by kernel_rfl) (fun _ _ _ h => h) (Or.inl ⟨by rfl, ?_⟩) (by assumption) ?_
                    rotate_left 1
                    · intro w' hSw
                      go_simp
                      all_goals first | with_reducible rfl | (rw [if_neg (by omega)]; done) | (rw [if_pos (by omega)]; done)
                    try simp only [List.getElem_toArray, List.getElem_cons_zero, List.getElem_cons_succ, Act.put, List.setIfInBounds_toArray, List.set_cons_zero, List.set_cons_succ]
                    refine wpAnyH_ready (rs := [13]) (by kernel_rfl) (by simp) ?_
                    refine AllReadyH.cons rfl (fun K hK => ?_) AllReadyH.nil
                    obtain ⟨r0, r1⟩ := cells2b16 P28.out
                    obtain ⟨f0, f1⟩ := free2_16 P28.out
                    obtain ⟨hbz, htz⟩ := put2_16 P28.out (.slice A9 n9 c9) (.slice A8 (n + 1 + m) c8)
                    have PZ := Lib.hid (Px.off16c PX28.out P28.out two_slices16 htz)
                    have KZ := Lib.hid (Kx.off16 KX28.out P28.out two_slices16 htz)
                    have VZ : Hid (Turn (fun k => w3.heap.size < k) wx _) := Lib.hid (V28.out.trans (htz.mono (fun k _ e => by have := HP27.out; omega)))
                    have QZ := Lib.hid hbz
                    clear hbz htz
                    go_simp
                    obtain ⟨wz, hwz⟩ : ∃ X, (w28.setCell ⟨p27, 0, none⟩ (.slice A9 n9 c9)).setCell ⟨p27, 1, none⟩ (.slice A8 (n + 1 + m) c8) = X := ⟨_, rfl⟩
                    rw [hwz] at VZ PZ KZ QZ ⊢
                    refine hK.out _ _ VZ.out (fun hHeld => ?_)
                    clear hHeld hK K
                    try simp only [List.getElem_toArray, List.getElem_cons_zero, List.getElem_cons_succ, Act.put, List.setIfInBounds_toArray, List.set_cons_zero, List.set_cons_succ]
                    refine wpAnyH_take (i := 14) (v := ?_) rfl (by kernel_rfl) (by kernel_rfl) (by kernel_rfl) (fun _ _ _ h => h) (Or.inl ⟨by rfl, ?_⟩) (by assumption) ?_
                    rotate_left 1
                    · intro w' hSw
                      go_simp
                      all_goals first | with_reducible rfl | (rw [if_neg (by omega)]; done) | (rw [if_pos (by omega)]; done)
                    try simp only [List.getElem_toArray, List.getElem_cons_zero, List.getElem_cons_succ, Act.put, List.setIfInBounds_toArray, List.set_cons_zero, List.set_cons_succ]
                    refine wpAnyH_done (by kernel_rfl) ?_ _
                    refine NoPanic.normal ?_
                    have GZ := Lib.hid (MO.out.g.turn VZ.out (fun h => by have := MO.out.q; omega))
                    have DZ : Hid (Turn (fun _ => False) w wz) := Lib.hid (MO.out.t.trans_new VZ.out (fun k hk e => by have := MO.out.q; omega))
                    obtain ⟨q0, q1⟩ := cells2b16 QZ.out
                    obtain ⟨g0, g1⟩ := cells2b16 GZ.out
                    obtain ⟨h0, h1⟩ := free2_16 GZ.out
                    clear hwz
                    go_wp2_with fail
                    obtain ⟨hb9, hs9⟩ := put2_16 GZ.out (.slice none 0 0) (.slice none 0 0)
                    obtain ⟨e0, e1⟩ := cells2b16 hb9
                    refine bodyPost_ret (v := .tuple #[.agg #[.slice none 0 0, .slice none 0 0], .int .i64 9]) (by simp [results, Try.results22, go_sem, e0, e1]) rfl ⟨none, 0, 0, none, 0, 0, rfl, kx_nil16 _, px_nil16 _, Nat.le_refl _, DZ.out.trans_new hs9 (fun k hk e => by omega)⟩
                · have P30 : Hid (Blk (w22.alloc (.cells #[.slice none 0 0, .slice none 0 0] 46)) w22.heap.size 46 [.slice none 0 0, .slice none 0 0]) := Lib.hid (Blk.new _ _ _)
                  have HP30 : Hid (w3.heap.size < w22.heap.size) := Lib.hid (by have := V22.out.size; have := MO.out.x.lt; omega)
                  have V30 : Hid (Turn (fun k => w3.heap.size < k) wx (w22.alloc (.cells #[.slice none 0 0, .slice none 0 0] 46))) := Lib.hid (V22.out.alloc _)
                  have PA30 : Hid (∀ k, (Value.slice A7 (n + 1) c7).ownBlock = some k → k ≠ w22.heap.size) := Lib.hid (fun k hk e => by have := (own_ge9 RA22.out k hk).2; omega)
                  have RA30 := Lib.hid (own_still_ RA22.out ((Turn.refl (fun _ => False) w22).alloc (.cells #[.slice none 0 0, .slice none 0 0] 46)))
                  have RB30 := Lib.hid (own_still_ RB22.out ((Turn.refl (fun _ => False) w22).alloc (.cells #[.slice none 0 0, .slice none 0 0] 46)))
                  go_simp
                  obtain ⟨p30, hp30⟩ : ∃ b, w22.heap.size = b := ⟨_, rfl⟩
                  rw [hp30] at P30 HP30 PA30 ⊢
                  clear hp30
                  obtain ⟨w30, hw30⟩ : ∃ X, w22.alloc (.cells #[.slice none 0 0, .slice none 0 0] 46) = X := ⟨_, rfl⟩
                  rw [hw30] at P30 V30 RA30 RB30 ⊢
                  clear hw30
                  refine hK.out _ _ V30.out (fun hHeld => ?_)
                  clear hHeld hK K
                  try simp only [List.getElem_toArray, List.getElem_cons_zero, List.getElem_cons_succ, Act.put, List.setIfInBounds_toArray, List.set_cons_zero, List.set_cons_succ]
                  refine wpAnyH_ready (rs := [7]) (by kernel_rfl) (by simp) ?_
                  refine AllReadyH.cons rfl (fun K hK => ?_) AllReadyH.nil
                  refine step_app_rc17 rfl _ _ 44 rfl (w3.heap.size + 1) 59 _ 2 32 Try.underlying44 info_sp16 rfl (by decide) (.slice A7 (n + 1) c7) (n + 1) (O.flatMap pc2 ++ pc2 ⟨xk, xv⟩) rfl RA30.out D m d (B.flatMap pc2) rfl (by rw [flat_len pc2_len, HMB.out]) (by have := RB30.out; rw [HMB.out] at this; exact rc_own this) (pc2_one _) (by unfold maxLen; omega) (by omega) (by have := V30.out.size; have := MO.out.x.lt; omega) ?_
                  intro A8 c8 w31 ho ht hv
                  rw [HFL.out] at ho
                  have HC8 : Hid ((n + 1 + m) ≤ c8) := Lib.hid (own_cap16 ho)
                  have PX31 : Hid (Px w31 (.slice A8 (n + 1 + m) c8) (tog16 S ⟨fa, fb⟩)) := Lib.hid ⟨A8, c8, by rw [HLN.out], by rw [HLN.out]; omega, rc_own ho⟩
                  have V31 : Hid (Turn (fun k => w3.heap.size < k) wx w31) := Lib.hid (V30.out.trans (ht.mono (fun k _ e => by have := (own_ge9 RA30.out k e).1; omega)))
                  have P31 := Lib.hid (P30.out.turn ht (fun e => PA30.out _ e rfl))
                  clear ho ht hv
                  refine hK.out _ _ V31.out (fun hHeld => ?_)
                  clear hHeld hK K
                  try simp only [List.getElem_toArray, List.getElem_cons_zero, List.getElem_cons_succ, Act.put, List.setIfInBounds_toArray, List.set_cons_zero, List.set_cons_succ]
                  refine wpAnyH_ready (rs := [8]) (by kernel_rfl) (by simp) ?_
                  refine AllReadyH.cons rfl (fun K hK => ?_) AllReadyH.nil
                  refine step_call rfl 58 Try.f58 _ _ rfl Try.func58 (by kernel_rfl) (by kernel_rfl) _ _ ((HMA.out A8 c8 w31 PX31.out (MO.out.t.trans_new V31.out (fun k hk e => by have := MO.out.q; omega))).mono fun e W' ⟨A9, n9, c9, h1, h2, h3⟩ => (⟨_, h1, A9, n9, c9, rfl, h2, h3⟩ : ∃ v, e = .returned v ∧ ∃ A9 n9 c9, v = .tuple #[.agg #[.slice A9 n9 c9, .slice A8 (n + 1 + m) c8], .bool false] ∧ Kx W' (.slice A9 n9 c9) (mad16 (tog16 S ⟨fa, fb⟩) L) ∧ Turn (fun _ => False) w31 W')) (by go_simp) ?_
                  rintro v9 w32 ⟨A9, n9, c9, rfl, hk9, ht⟩
                  have KX32 := Lib.hid hk9
                  have PX32 := Lib.hid (PX31.out.still ht)
                  have V32 : Hid (Turn (fun k => w3.heap.size < k) wx w32) := Lib.hid (V31.out.trans (ht.mono (fun k _ h => h.elim)))
                  have P32 := Lib.hid (P31.out.turn ht (fun h => h))
                  clear hk9 ht
                  refine hK.out _ _ V32.out (fun hHeld => ?_)
                  clear hHeld hK K
                  try simp only [List.getElem_toArray, List.getElem_cons_zero, List.getElem_cons_succ, Act.put, List.setIfInBounds_toArray, List.set_cons_zero, List.set_cons_succ]
                  refine wpAnyH_take (i := 9) (v := ?_) rfl (by kernel_rfl) (by kernel_rfl) (by kernel_rfl) (fun _ _ _ h => h) (Or.inl ⟨by rfl, ?_⟩) (by assumption) ?_
                  rotate_left 1
                  · intro w' hSw
                    go_simp
                    all_goals first | with_reducible rfl | (rw [if_neg (by omega)]; done) | (rw [if_pos (by omega)]; done)
                  try simp only [List.getElem_toArray, List.getElem_cons_zero, List.getElem_cons_succ, Act.put, List.setIfInBounds_toArray, List.set_cons_zero, List.set_cons_succ]
                  refine wpAnyH_take (i := 10) (v := ?_) rfl (by kernel_rfl) (by kernel_rfl) (by kernel_rfl) (fun _ _ _ h => h) (Or.inl ⟨by rfl, ?_⟩) (by assumption) ?_
                  rotate_left 1
                  · intro w' hSw
                    go_simp
                    all_goals first | with_reducible rfl | (rw [if_neg (by omega)]; done) | (rw [if_pos (by omega)]; done)
                  try simp only [List.getElem_toArray, List.getElem_cons_zero, List.getElem_cons_succ, Act.put, List.setIfInBounds_toArray, List.set_cons_zero, List.set_cons_succ]
                  refine wpAnyH_take (i := 11) (v := ?_) rfl (by kernel_rfl) (by kernel_rfl) (by kernel_rfl) (fun _ _ _ h => h) (Or.inl ⟨by rfl, ?_⟩) (by assumption) ?_
                  rotate_left 1
                  · intro w' hSw
                    go_simp
                    all_goals first | with_reducible rfl | (rw [if_neg (by omega)]; done) | (rw [if_pos (by omega)]; done)
                  try simp only [List.getElem_toArray, List.getElem_cons_zero, List.getElem_cons_succ, Act.put, List.setIfInBounds_toArray, List.set_cons_zero, List.set_cons_succ]
                  refine wpAnyH_ready (rs := [13]) (by kernel_rfl) (by simp) ?_
                  refine AllReadyH.cons rfl (fun K hK => ?_) AllReadyH.nil
                  obtain ⟨r0, r1⟩ := cells2b16 P32.out
                  obtain ⟨f0, f1⟩ := free2_16 P32.out
                  obtain ⟨hbz, htz⟩ := put2_16 P32.out (.slice A9 n9 c9) (.slice A8 (n + 1 + m) c8)
                  have PZ := Lib.hid (Px.off16c PX32.out P32.out two_slices16 htz)
                  have KZ := Lib.hid (Kx.off16 KX32.out P32.out two_slices16 htz)
                  have VZ : Hid (Turn (fun k => w3.heap.size < k) wx _) := Lib.hid (V32.out.trans (htz.mono (fun k _ e => by have := HP30.out; omega)))
                  have QZ := Lib.hid hbz
                  clear hbz htz
                  go_simp
                  obtain ⟨wz, hwz⟩ : ∃ X, (w32.setCell ⟨p30, 0, none⟩ (.slice A9 n9 c9)).setCell ⟨p30, 1, none⟩ (.slice A8 (n + 1 + m) c8) = X := ⟨_, rfl⟩
                  rw [hwz] at VZ PZ KZ QZ ⊢
                  refine hK.out _ _ VZ.out (fun hHeld => ?_)
                  clear hHeld hK K
                  try simp only [List.getElem_toArray, List.getElem_cons_zero, List.getElem_cons_succ, Act.put, List.setIfInBounds_toArray, List.set_cons_zero, List.set_cons_succ]
                  refine wpAnyH_take (i := 14) (v := ?_) rfl (by kernel_rfl) (by kernel_rfl) (by kernel_rfl) (fun _ _ _ h => h) (Or.inl ⟨by rfl, ?_⟩) (by assumption) ?_
                  rotate_left 1
                  · intro w' hSw
                    go_simp
                    all_goals first | with_reducible rfl | (rw [if_neg (by omega)]; done) | (rw [if_pos (by omega)]; done)
                  try simp only [List.getElem_toArray, List.getElem_cons_zero, List.getElem_cons_succ, Act.put, List.setIfInBounds_toArray, List.set_cons_zero, List.set_cons_succ]
                  refine wpAnyH_done (by kernel_rfl) ?_ _
                  refine NoPanic.normal ?_
                  have GZ := Lib.hid (MO.out.g.turn VZ.out (fun h => by have := MO.out.q; omega))
                  have DZ : Hid (Turn (fun _ => False) w wz) := Lib.hid (MO.out.t.trans_new VZ.out (fun k hk e => by have := MO.out.q; omega))
                  obtain ⟨q0, q1⟩ := cells2b16 QZ.out
                  obtain ⟨g0, g1⟩ := cells2b16 GZ.out
                  obtain ⟨h0, h1⟩ := free2_16 GZ.out
                  clear hwz
                  go_wp2_with fail
                  obtain ⟨hb9, hs9⟩ := put2_16 GZ.out (.slice none 0 0) (.slice none 0 0)
                  obtain ⟨e0, e1⟩ := cells2b16 hb9
                  refine bodyPost_ret (v := .tuple #[.agg #[.slice none 0 0, .slice none 0 0], .int .i64 9]) (by simp [results, Try.results22, go_sem, e0, e1]) rfl ⟨none, 0, 0, none, 0, 0, rfl, kx_nil16 _, px_nil16 _, Nat.le_refl _, DZ.out.trans_new hs9 (fun k hk e => by omega)⟩
              · have P34 : Hid (Blk (w21.alloc (.cells #[.slice none 0 0, .slice none 0 0] 46)) w21.heap.size 46 [.slice none 0 0, .slice none 0 0]) := Lib.hid (Blk.new _ _ _)
                have HP34 : Hid (w3.heap.size < w21.heap.size) := Lib.hid (by have := V21.out.size; have := MO.out.x.lt; omega)
                have V34 : Hid (Turn (fun k => w3.heap.size < k) wx (w21.alloc (.cells #[.slice none 0 0, .slice none 0 0] 46))) := Lib.hid (V21.out.alloc _)
                have PA34 : Hid (∀ k, (Value.slice A n c).ownBlock = some k → k ≠ w21.heap.size) := Lib.hid (fun k hk e => by have := (own_ge9 RA21.out k hk).2; omega)
                have RA34 := Lib.hid (own_still_ RA21.out ((Turn.refl (fun _ => False) w21).alloc (.cells #[.slice none 0 0, .slice none 0 0] 46)))
                have RB34 := Lib.hid (own_still_ RB21.out ((Turn.refl (fun _ => False) w21).alloc (.cells #[.slice none 0 0, .slice none 0 0] 46)))
                have NB34 := Lib.hid (NB21.out.alloc (.cells #[.slice none 0 0, .slice none 0 0] 46))
                go_simp
                obtain ⟨p34, hp34⟩ : ∃ b, w21.heap.size = b := ⟨_, rfl⟩
                rw [hp34] at P34 HP34 PA34 ⊢
                clear hp34
                obtain ⟨w34, hw34⟩ : ∃ X, w21.alloc (.cells #[.slice none 0 0, .slice none 0 0] 46) = X := ⟨_, rfl⟩
                rw [hw34] at P34 V34 RA34 RB34 NB34 ⊢
                clear hw34
                refine hK.out _ _ V34.out (fun hHeld => ?_)
                clear hHeld hK K
                try simp only [List.getElem_toArray, List.getElem_cons_zero, List.getElem_cons_succ, Act.put, List.setIfInBounds_toArray, List.set_cons_zero, List.set_cons_succ]
                refine wpAnyH_ready (rs := [5]) (by kernel_rfl) (by simp) ?_
                refine AllReadyH.cons rfl (fun K hK => ?_) AllReadyH.nil
                refine step_app_rc17 rfl _ _ 44 rfl (w3.heap.size + 1) 59 _ 2 32 Try.underlying44 info_sp16 rfl (by decide) (.slice A n c) n (O.flatMap pc2) rfl (by have := RA34.out; rw [HNO.out] at this; exact this) (some ⟨b21, 0, none⟩) 1 1 (pc2 ⟨xk, xv⟩) rfl rfl NB34.out.rc (fun u hu => by simp [pc2] at hu; rcases hu with rfl | rfl <;> rfl) (by unfold maxLen; omega) (by omega) (by have := V34.out.size; have := MO.out.x.lt; omega) ?_
                intro A7 c7 w35 ho ht hv
                have RA35 := Lib.hid ho
                have RB35 := Lib.hid (own_tn16 RB34.out ht (fun k hk e => MO.out.ne k e hk))
                have V35 : Hid (Turn (fun k => w3.heap.size < k) wx w35) := Lib.hid (V34.out.trans (ht.mono (fun k _ e => by have := (own_ge9 RA34.out k e).1; omega)))
                have P35 := Lib.hid (P34.out.turn ht (fun e => PA34.out _ e rfl))
                have PA35 : Hid (∀ k, (Value.slice A7 (n + 1) c7).ownBlock = some k → k ≠ p34) := Lib.hid (fun k hk e => by
                  rcases hv with hv | hv
                  · rw [hv] at hk; exact PA34.out k hk e
                  · rw [hv] at hk; injection hk with hk; have := P34.out.lt; omega)
                clear ho ht hv
                refine hK.out _ _ V35.out (fun hHeld => ?_)
                clear hHeld hK K
                try simp only [List.getElem_toArray, List.getElem_cons_zero, List.getElem_cons_succ, Act.put, List.setIfInBounds_toArray, List.set_cons_zero, List.set_cons_succ]
                refine wpAnyH_ready (rs := [7]) (by kernel_rfl) (by simp) ?_
                refine AllReadyH.cons rfl (fun K hK => ?_) AllReadyH.nil
                refine step_app_rc17 rfl _ _ 44 rfl (w3.heap.size + 1) 59 _ 2 32 Try.underlying44 info_sp16 rfl (by decide) (.slice A7 (n + 1) c7) (n + 1) (O.flatMap pc2 ++ pc2 ⟨xk, xv⟩) rfl RA35.out D m d (B.flatMap pc2) rfl (by rw [flat_len pc2_len, HMB.out]) (by have := RB35.out; rw [HMB.out] at this; exact rc_own this) (pc2_one _) (by unfold maxLen; omega) (by omega) (by have := V35.out.size; have := MO.out.x.lt; omega) ?_
                intro A8 c8 w36 ho ht hv
                rw [HFL.out] at ho
                have HC8 : Hid ((n + 1 + m) ≤ c8) := Lib.hid (own_cap16 ho)
                have PX36 : Hid (Px w36 (.slice A8 (n + 1 + m) c8) (tog16 S ⟨fa, fb⟩)) := Lib.hid ⟨A8, c8, by rw [HLN.out], by rw [HLN.out]; omega, rc_own ho⟩
                have V36 : Hid (Turn (fun k => w3.heap.size < k) wx w36) := Lib.hid (V35.out.trans (ht.mono (fun k _ e => by have := (own_ge9 RA35.out k e).1; omega)))
                have P36 := Lib.hid (P35.out.turn ht (fun e => PA35.out _ e rfl))
                clear ho ht hv
                refine hK.out _ _ V36.out (fun hHeld => ?_)
                clear hHeld hK K
                try simp only [List.getElem_toArray, List.getElem_cons_zero, List.getElem_cons_succ, Act.put, List.setIfInBounds_toArray, List.set_cons_zero, List.set_cons_succ]
                refine wpAnyH_ready (rs := [8]) (by kernel_rfl) (by simp) ?_
                refine AllReadyH.cons rfl (fun K hK => ?_) AllReadyH.nil
                refine step_call rfl 58 Try.f58 _ _ rfl Try.func58 (by kernel_rfl) (by kernel_rfl) _ _ ((HMA.out A8 c8 w36 PX36.out (MO.out.t.trans_new V36.out (fun k hk e => by have := MO.out.q; omega))).mono fun e W' ⟨A9, n9, c9, h1, h2, h3⟩ => (⟨_, h1, A9, n9, c9, rfl, h2, h3⟩ : ∃ v, e = .returned v ∧ ∃ A9 n9 c9, v = .tuple #[.agg #[.slice A9 n9 c9, .slice A8 (n + 1 + m) c8], .bool false] ∧ Kx W' (.slice A9 n9 c9) (mad16 (tog16 S ⟨fa, fb⟩) L) ∧ Turn (fun _ => False) w36 W')) (by go_simp) ?_
                rintro v9 w37 ⟨A9, n9, c9, rfl, hk9, ht⟩
                have KX37 := Lib.hid hk9
                have PX37 := Lib.hid (PX36.out.still ht)
                have V37 : Hid (Turn (fun k => w3.heap.size < k) wx w37) := Lib.hid (V36.out.trans (ht.mono (fun k _ h => h.elim)))
                have P37 := Lib.hid (P36.out.turn ht (fun h => h))
                clear hk9 ht
                refine hK.out _ _ V37.out (fun hHeld => ?_)
                clear hHeld hK K
                try simp only [List.getElem_toArray, List.getElem_cons_zero, List.getElem_cons_succ, Act.put, List.setIfInBounds_toArray, List.set_cons_zero, List.set_cons_succ]
                refine wpAnyH_take (i := 9) (v := ?_) rfl (by kernel_rfl) (by kernel_rfl) (by kernel_rfl) (fun _ _ _ h => h) (Or.inl ⟨by rfl, ?_⟩) (by assumption) ?_
                rotate_left 1
                · intro w' hSw
                  go_simp
                  all_goals first | with_reducible rfl | (rw [if_neg (by omega)]; done) | (rw [if_pos (by omega)]; done)
                try simp only [List.getElem_toArray, List.getElem_cons_zero, List.getElem_cons_succ, Act.put, List.setIfInBounds_toArray, List.set_cons_zero, List.set_cons_succ]
                refine wpAnyH_take (i := 10) (v := ?_) rfl (by kernel_rfl) (by kernel_rfl) (by kernel_rfl) (fun _ _ _ h => h) (Or.inl ⟨by rfl, ?_⟩) (by assumption) ?_
                rotate_left 1
                · intro w' hSw
                  go_simp
                  all_goals first | with_reducible rfl | (rw [if_neg (by omega)]; done) | (rw [if_pos (by omega)]; done)
                try simp only [List.getElem_toArray, List.getElem_cons_zero, List.getElem_cons_succ, Act.put, List.setIfInBounds_toArray, List.set_cons_zero, List.set_cons_succ]
                refine wpAnyH_take (i := 11) (v := ?_) rfl (by kernel_rfl) (by kernel_rfl) (by kernel_rfl) (fun _ _ _ h => h) (Or.inl ⟨by rfl, ?_⟩) (by assumption) ?_
                rotate_left 1
                · intro w' hSw
                  go_simp
                  all_goals first | with_reducible rfl | (rw [if_neg (by omega)]; done) | (rw [if_pos (by omega)]; done)
                try simp only [List.getElem_toArray, List.getElem_cons_zero, List.getElem_cons_succ, Act.put, List.setIfInBounds_toArray, List.set_cons_zero, List.set_cons_succ]
                refine wpAnyH_ready (rs := [13]) (by kernel_rfl) (by simp) ?_
                refine AllReadyH.cons rfl (fun K hK => ?_) AllReadyH.nil
                obtain ⟨r0, r1⟩ := cells2b16 P37.out
                obtain ⟨f0, f1⟩ := free2_16 P37.out
                obtain ⟨hbz, htz⟩ := put2_16 P37.out (.slice A9 n9 c9) (.slice A8 (n + 1 + m) c8)
                have PZ := Lib.hid (Px.off16c PX37.out P37.out two_slices16 htz)
                have KZ := Lib.hid (Kx.off16 KX37.out P37.out two_slices16 htz)
                have VZ : Hid (Turn (fun k => w3.heap.size < k) wx _) := Lib.hid (V37.out.trans (htz.mono (fun k _ e => by have := HP34.out; omega)))
                have QZ := Lib.hid hbz
                clear hbz htz
                go_simp
                obtain ⟨wz, hwz⟩ : ∃ X, (w37.setCell ⟨p34, 0, none⟩ (.slice A9 n9 c9)).setCell ⟨p34, 1, none⟩ (.slice A8 (n + 1 + m) c8) = X := ⟨_, rfl⟩
                rw [hwz] at VZ PZ KZ QZ ⊢
                refine hK.out _ _ VZ.out (fun hHeld => ?_)
                clear hHeld hK K
                try simp only [List.getElem_toArray, List.getElem_cons_zero, List.getElem_cons_succ, Act.put, List.setIfInBounds_toArray, List.set_cons_zero, List.set_cons_succ]
                refine wpAnyH_take (i := 14) (v := ?_) rfl (by kernel_rfl) (by kernel_rfl) (by kernel_rfl) (fun _ _ _ h => h) (Or.inl ⟨by rfl, ?_⟩) (by assumption) ?_
                rotate_left 1
                · intro w' hSw
                  go_simp
                  all_goals first | with_reducible rfl | (rw [if_neg (by omega)]; done) | (rw [if_pos (by omega)]; done)
                try simp only [List.getElem_toArray, List.getElem_cons_zero, List.getElem_cons_succ, Act.put, List.setIfInBounds_toArray, List.set_cons_zero, List.set_cons_succ]
                refine wpAnyH_done (by kernel_rfl) ?_ _
                refine NoPanic.normal ?_
                have GZ := Lib.hid (MO.out.g.turn VZ.out (fun h => by have := MO.out.q; omega))
                have DZ : Hid (Turn (fun _ => False) w wz) := Lib.hid (MO.out.t.trans_new VZ.out (fun k hk e => by have := MO.out.q; omega))
                obtain ⟨q0, q1⟩ := cells2b16 QZ.out
                obtain ⟨g0, g1⟩ := cells2b16 GZ.out
                obtain ⟨h0, h1⟩ := free2_16 GZ.out
                clear hwz
                go_wp2_with fail
                obtain ⟨hb9, hs9⟩ := put2_16 GZ.out (.slice none 0 0) (.slice none 0 0)
                obtain ⟨e0, e1⟩ := cells2b16 hb9
                refine bodyPost_ret (v := .tuple #[.agg #[.slice none 0 0, .slice none 0 0], .int .i64 9]) (by simp [results, Try.results22, go_sem, e0, e1]) rfl ⟨none, 0, 0, none, 0, 0, rfl, kx_nil16 _, px_nil16 _, Nat.le_refl _, DZ.out.trans_new hs9 (fun k hk e => by omega)⟩
            · have P39 : Hid (Blk (wx.drew.alloc (.cells #[.slice none 0 0, .slice none 0 0] 46)) wx.drew.heap.size 46 [.slice none 0 0, .slice none 0 0]) := Lib.hid (Blk.new _ _ _)
              have HP39 : Hid (w3.heap.size < wx.drew.heap.size) := Lib.hid (by have := V20.out.size; have := MO.out.x.lt; omega)
              have V39 : Hid (Turn (fun k => w3.heap.size < k) wx (wx.drew.alloc (.cells #[.slice none 0 0, .slice none 0 0] 46))) := Lib.hid (V20.out.alloc _)
              have PA39 : Hid (∀ k, (Value.slice A n c).ownBlock = some k → k ≠ wx.drew.heap.size) := Lib.hid (fun k hk e => by have := (own_ge9 RA20.out k hk).2; omega)
              have RA39 := Lib.hid (own_still_ RA20.out ((Turn.refl (fun _ => False) wx.drew).alloc (.cells #[.slice none 0 0, .slice none 0 0] 46)))
              have RB39 := Lib.hid (own_still_ RB20.out ((Turn.refl (fun _ => False) wx.drew).alloc (.cells #[.slice none 0 0, .slice none 0 0] 46)))
              go_simp
              change Hid (Blk _ wx.heap.size _ _) at P39
              change Hid (w3.heap.size < wx.heap.size) at HP39
              change Hid (∀ k, _ → k ≠ wx.heap.size) at PA39
              obtain ⟨p39, hp39⟩ : ∃ b, wx.heap.size = b := ⟨_, rfl⟩
              rw [hp39] at P39 HP39 PA39 ⊢
              clear hp39
              have ed39 : wx.drew.alloc (.cells #[.slice none 0 0, .slice none 0 0] 46) = (wx.alloc (.cells #[.slice none 0 0, .slice none 0 0] 46)).drew := rfl
              rw [ed39] at P39 V39 RA39 RB39
              clear ed39
              obtain ⟨w39, hw39⟩ : ∃ X, (wx.alloc (.cells #[.slice none 0 0, .slice none 0 0] 46)).drew = X := ⟨_, rfl⟩
              rw [hw39] at P39 V39 RA39 RB39 ⊢
              clear hw39
              refine hK.out _ _ V39.out (fun hHeld => ?_)
              clear hHeld hK K
              try simp only [List.getElem_toArray, List.getElem_cons_zero, List.getElem_cons_succ, Act.put, List.setIfInBounds_toArray, List.set_cons_zero, List.set_cons_succ]
              refine wpAnyH_ready (rs := [4]) (by kernel_rfl) (by simp) ?_
              refine AllReadyH.cons rfl (fun K hK => ?_) AllReadyH.nil
              refine step_build16 rfl 44 59 _ rfl [.string xk, .string xv] (by rfl) Try.underlying44 info_sp16 rfl ?_
              have NB40 : Hid (Blk (w39.alloc (.cells #[.string xk, .string xv] 59)) w39.heap.size 59 (pc2 ⟨xk, xv⟩)) := Lib.hid (Blk.new _ _ _)
              have V40 : Hid (Turn (fun k => w3.heap.size < k) wx (w39.alloc (.cells #[.string xk, .string xv] 59))) := Lib.hid (V39.out.alloc _)
              have RA40 := Lib.hid (own_still_ RA39.out ((Turn.refl (fun _ => False) w39).alloc (.cells #[.string xk, .string xv] 59)))
              have RB40 := Lib.hid (own_still_ RB39.out ((Turn.refl (fun _ => False) w39).alloc (.cells #[.string xk, .string xv] 59)))
              have P40 := Lib.hid (P39.out.alloc (.cells #[.string xk, .string xv] 59))
              obtain ⟨b40, hb40⟩ : ∃ b, w39.heap.size = b := ⟨_, rfl⟩
              rw [hb40] at NB40 ⊢
              clear hb40
              obtain ⟨w40, hw40⟩ : ∃ X, w39.alloc (.cells #[.string xk, .string xv] 59) = X := ⟨_, rfl⟩
              rw [hw40] at NB40 V40 RA40 RB40 P40 ⊢
              clear hw40
              refine hK.out _ _ V40.out (fun hHeld => ?_)
              clear hHeld hK K
              try simp only [List.getElem_toArray, List.getElem_cons_zero, List.getElem_cons_succ, Act.put, List.setIfInBounds_toArray, List.set_cons_zero, List.set_cons_succ]
              refine wpAnyH_ready (rs := [5]) (by kernel_rfl) (by simp) ?_
              refine AllReadyH.cons rfl (fun K hK => ?_) AllReadyH.nil
              refine step_app_rc17 rfl _ _ 44 rfl (w3.heap.size + 1) 59 _ 2 32 Try.underlying44 info_sp16 rfl (by decide) (.slice A n c) n (O.flatMap pc2) rfl (by have := RA40.out; rw [HNO.out] at this; exact this) (some ⟨b40, 0, none⟩) 1 1 (pc2 ⟨xk, xv⟩) rfl rfl NB40.out.rc (fun u hu => by simp [pc2] at hu; rcases hu with rfl | rfl <;> rfl) (by unfold maxLen; omega) (by omega) (by have := V40.out.size; have := MO.out.x.lt; omega) ?_
              intro A7 c7 w41 ho ht hv
              have RA41 := Lib.hid ho
              have RB41 := Lib.hid (own_tn16 RB40.out ht (fun k hk e => MO.out.ne k e hk))
              have V41 : Hid (Turn (fun k => w3.heap.size < k) wx w41) := Lib.hid (V40.out.trans (ht.mono (fun k _ e => by have := (own_ge9 RA40.out k e).1; omega)))
              have P41 := Lib.hid (P40.out.turn ht (fun e => PA39.out _ e rfl))
              have PA41 : Hid (∀ k, (Value.slice A7 (n + 1) c7).ownBlock = some k → k ≠ p39) := Lib.hid (fun k hk e => by
                rcases hv with hv | hv
                · rw [hv] at hk; exact PA39.out k hk e
                · rw [hv] at hk; injection hk with hk; have := P40.out.lt; omega)
              clear ho ht hv
              refine hK.out _ _ V41.out (fun hHeld => ?_)
              clear hHeld hK K
              try simp only [List.getElem_toArray, List.getElem_cons_zero, List.getElem_cons_succ, Act.put, List.setIfInBounds_toArray, List.set_cons_zero, List.set_cons_succ]
              refine wpAnyH_ready (rs := [7]) (by kernel_rfl) (by simp) ?_
              refine AllReadyH.cons rfl (fun K hK => ?_) AllReadyH.nil
              refine step_app_rc17 rfl _ _ 44 rfl (w3.heap.size + 1) 59 _ 2 32 Try.underlying44 info_sp16 rfl (by decide) (.slice A7 (n + 1) c7) (n + 1) (O.flatMap pc2 ++ pc2 ⟨xk, xv⟩) rfl RA41.out D m d (B.flatMap pc2) rfl (by rw [flat_len pc2_len, HMB.out]) (by have := RB41.out; rw [HMB.out] at this; exact rc_own this) (pc2_one _) (by unfold maxLen; omega) (by omega) (by have := V41.out.size; have := MO.out.x.lt; omega) ?_
              intro A8 c8 w42 ho ht hv
              rw [HFL.out] at ho
              have HC8 : Hid ((n + 1 + m) ≤ c8) := Lib.hid (own_cap16 ho)
              have PX42 : Hid (Px w42 (.slice A8 (n + 1 + m) c8) (tog16 S ⟨fa, fb⟩)) := Lib.hid ⟨A8, c8, by rw [HLN.out], by rw [HLN.out]; omega, rc_own ho⟩
              have V42 : Hid (Turn (fun k => w3.heap.size < k) wx w42) := Lib.hid (V41.out.trans (ht.mono (fun k _ e => by have := (own_ge9 RA41.out k e).1; omega)))
              have P42 := Lib.hid (P41.out.turn ht (fun e => PA41.out _ e rfl))
              clear ho ht hv
              refine hK.out _ _ V42.out (fun hHeld => ?_)
              clear hHeld hK K
              try simp only [List.getElem_toArray, List.getElem_cons_zero, List.getElem_cons_succ, Act.put, List.setIfInBounds_toArray, List.set_cons_zero, List.set_cons_succ]
              refine wpAnyH_ready (rs := [8]) (by kernel_rfl) (by simp) ?_
              refine AllReadyH.cons rfl (fun K hK => ?_) AllReadyH.nil
              refine step_call rfl 58 Try.f58 _ _ rfl Try.func58 (by kernel_rfl) (by kernel_rfl) _ _ ((HMA.out A8 c8 w42 PX42.out (MO.out.t.trans_new V42.out (fun k hk e => by have := MO.out.q; omega))).mono fun e W' ⟨A9, n9, c9, h1, h2, h3⟩ => (⟨_, h1, A9, n9, c9, rfl, h2, h3⟩ : ∃ v, e = .returned v ∧ ∃ A9 n9 c9, v = .tuple #[.agg #[.slice A9 n9 c9, .slice A8 (n + 1 + m) c8], .bool false] ∧ Kx W' (.slice A9 n9 c9) (mad16 (tog16 S ⟨fa, fb⟩) L) ∧ Turn (fun _ => False) w42 W')) (by go_simp) ?_
              rintro v9 w43 ⟨A9, n9, c9, rfl, hk9, ht⟩
              have KX43 := Lib.hid hk9
              have PX43 := Lib.hid (PX42.out.still ht)
              have V43 : Hid (Turn (fun k => w3.heap.size < k) wx w43) := Lib.hid (V42.out.trans (ht.mono (fun k _ h => h.elim)))
              have P43 := Lib.hid (P42.out.turn ht (fun h => h))
              clear hk9 ht
              refine hK.out _ _ V43.out (fun hHeld => ?_)
              clear hHeld hK K
              try simp only [List.getElem_toArray, List.getElem_cons_zero, List.getElem_cons_succ, Act.put, List.setIfInBounds_toArray, List.set_cons_zero, List.set_cons_succ]
              refine wpAnyH_take (i := 9) (v := ?_) rfl (by kernel_rfl) (by kernel_rfl) (by kernel_rfl) (fun _ _ _ h => h) (Or.inl ⟨by rfl, ?_⟩) (by assumption) ?_
              rotate_left 1
              · intro w' hSw
                go_simp
                all_goals first | with_reducible rfl | (rw [if_neg (by omega)]; done) | (rw [if_pos (by omega)]; done)
              try simp only [List.getElem_toArray, List.getElem_cons_zero, List.getElem_cons_succ, Act.put, List.setIfInBounds_toArray, List.set_cons_zero, List.set_cons_succ]
              refine wpAnyH_take (i := 10) (v := ?_) rfl (by kernel_rfl) (by kernel_rfl) (by kernel_rfl) (fun _ _ _ h => h) (Or.inl ⟨by rfl, ?_⟩) (by assumption) ?_
              rotate_left 1
              · intro w' hSw
                go_simp
                all_goals first | with_reducible rfl | (rw [if_neg (by omega)]; done) | (rw [if_pos (by omega)]; done)
              try simp only [List.getElem_toArray, List.getElem_cons_zero, List.getElem_cons_succ, Act.put, List.setIfInBounds_toArray, List.set_cons_zero, List.set_cons_succ]
              refine wpAnyH_take (i := 11) (v := ?_) rfl (by kernel_rfl) (by kernel_rfl) (by kernel_rfl) (fun _ _ _ h => h) (Or.inl ⟨by rfl, ?_⟩) (by assumption) ?_
              rotate_left 1
              · intro w' hSw
                go_simp
                all_goals first | with_reducible rfl | (rw [if_neg (by omega)]; done) | (rw [if_pos (by omega)]; done)
              try simp only [List.getElem_toArray, List.getElem_cons_zero, List.getElem_cons_succ, Act.put, List.setIfInBounds_toArray, List.set_cons_zero, List.set_cons_succ]
              refine wpAnyH_ready (rs := [13]) (by kernel_rfl) (by simp) ?_
              refine AllReadyH.cons rfl (fun K hK => ?_) AllReadyH.nil
              obtain ⟨r0, r1⟩ := cells2b16 P43.out
              obtain ⟨f0, f1⟩ := free2_16 P43.out
              obtain ⟨hbz, htz⟩ := put2_16 P43.out (.slice A9 n9 c9) (.slice A8 (n + 1 + m) c8)
              have PZ := Lib.hid (Px.off16c PX43.out P43.out two_slices16 htz)
              have KZ := Lib.hid (Kx.off16 KX43.out P43.out two_slices16 htz)
              have VZ : Hid (Turn (fun k => w3.heap.size < k) wx _) := Lib.hid (V43.out.trans (htz.mono (fun k _ e => by have := HP39.out; omega)))
              have QZ := Lib.hid hbz
              clear hbz htz
              go_simp
              obtain ⟨wz, hwz⟩ : ∃ X, (w43.setCell ⟨p39, 0, none⟩ (.slice A9 n9 c9)).setCell ⟨p39, 1, none⟩ (.slice A8 (n + 1 + m) c8) = X := ⟨_, rfl⟩
              rw [hwz] at VZ PZ KZ QZ ⊢
              refine hK.out _ _ VZ.out (fun hHeld => ?_)
              clear hHeld hK K
              try simp only [List.getElem_toArray, List.getElem_cons_zero, List.getElem_cons_succ, Act.put, List.setIfInBounds_toArray, List.set_cons_zero, List.set_cons_succ]
              refine wpAnyH_take (i := 14) (v := ?_) rfl (by kernel_rfl) (by kernel_rfl) (by kernel_rfl) (fun _ _ _ h => h) (Or.inl ⟨by rfl, ?_⟩) (by assumption) ?_
              rotate_left 1
              · intro w' hSw
                go_simp
                all_goals first | with_reducible rfl | (rw [if_neg (by omega)]; done) | (rw [if_pos (by omega)]; done)
              try simp only [List.getElem_toArray, List.getElem_cons_zero, List.getElem_cons_succ, Act.put, List.setIfInBounds_toArray, List.set_cons_zero, List.set_cons_succ]
              refine wpAnyH_done (by kernel_rfl) ?_ _
              refine NoPanic.normal ?_
              have GZ := Lib.hid (MO.out.g.turn VZ.out (fun h => by have := MO.out.q; omega))
              have DZ : Hid (Turn (fun _ => False) w wz) := Lib.hid (MO.out.t.trans_new VZ.out (fun k hk e => by have := MO.out.q; omega))
              obtain ⟨q0, q1⟩ := cells2b16 QZ.out
              obtain ⟨g0, g1⟩ := cells2b16 GZ.out
              obtain ⟨h0, h1⟩ := free2_16 GZ.out
              clear hwz
              go_wp2_with fail
              obtain ⟨hb9, hs9⟩ := put2_16 GZ.out (.slice none 0 0) (.slice none 0 0)
              obtain ⟨e0, e1⟩ := cells2b16 hb9
              refine bodyPost_ret (v := .tuple #[.agg #[.slice none 0 0, .slice none 0 0], .int .i64 9]) (by simp [results, Try.results22, go_sem, e0, e1]) rfl ⟨none, 0, 0, none, 0, 0, rfl, kx_nil16 _, px_nil16 _, Nat.le_refl _, DZ.out.trans_new hs9 (fun k hk e => by omega)⟩
end Go.Proofs.Ytjkfgbmlhglnfaa
