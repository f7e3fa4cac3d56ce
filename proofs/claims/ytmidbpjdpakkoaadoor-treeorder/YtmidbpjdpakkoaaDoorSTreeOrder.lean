import Derived.Test.YtmidbpjdpakkoaaDoorSTbg
namespace Go.Proofs.YtmidbpjdpakkoaaDoor.treeOrder
set_option linter.unusedVariables false
set_option linter.unusedSimpArgs false
set_option maxRecDepth 100000
open Go.RowKit
theorem put_last {p q : Tm.P} : ∀ {l : List Tm.P}, (∀ r ∈ l, r.1 ≠ p.1) → q.1 = p.1 → Tm.put p (l ++ [q]) = l ++ [p]
  | [], _, h => by rw [List.nil_append, Tm.put, if_pos h]; rfl
  | r :: l, hn, h => by rw [List.cons_append, Tm.put, if_neg (hn r (by simp)), put_last (fun x hx => hn x (by simp [hx])) h]; rfl
def rot (k : Nat) (l : List Tm.P) : List Tm.P := l.drop k ++ l.take k
theorem rot_perm (k : Nat) (l : List Tm.P) : (rot k l).Perm l := by
  unfold rot
  exact List.perm_append_comm.trans (by rw [List.take_append_drop])
theorem rot_length (k : Nat) (l : List Tm.P) : (rot k l).length = l.length := (rot_perm k l).length_eq
theorem rot_get {k i : Nat} {l : List Tm.P} (hk : k ≤ l.length) (hi : i < l.length) : (rot k l)[i]? = l[(i + k) % l.length]? := by
  unfold rot
  rcases Nat.lt_or_ge i (l.length - k) with h | h
  · rw [List.getElem?_append_left (by simp; omega), List.getElem?_drop, Nat.mod_eq_of_lt (by omega), Nat.add_comm]
  · rw [List.getElem?_append_right (by simp; omega), List.length_drop, List.getElem?_take, if_pos (by omega), Nat.mod_eq_sub_mod (by omega), Nat.mod_eq_of_lt (by omega)]
    congr 1
    omega
theorem order_step {l : List Tm.P} (hf : Tm.Fit 0 l) {k m j : Nat} (hk : k ≤ l.length) (hm : m < l.length) (hj : j < l.length) (hjm : j = (m + k) % l.length) (s : List UInt8) :
    Tm.put (l[j].1, s) ((rot k l).drop (m + 1)).reverse = ((rot k l).drop (m + 1)).reverse ++ [(l[j].1, s)] ∧ Tm.put (l[j].1, l[j].2) (((rot k l).drop (m + 1)).reverse ++ [(l[j].1, s)]) = ((rot k l).drop m).reverse := by
  have hm' : m < (rot k l).length := by rw [rot_length]; exact hm
  have he : (rot k l)[m] = l[j] := by
    have := rot_get hk hm
    rw [← hjm, List.getElem?_eq_getElem hm', List.getElem?_eq_getElem hj] at this
    exact Option.some.inj this
  have hp : (rot k l).drop m = l[j] :: (rot k l).drop (m + 1) := by rw [List.drop_eq_getElem_cons hm', he]
  have hpw : (rot k l).Pairwise fun p q => p.1 ≠ q.1 := ((rot_perm k l).pairwise_iff (fun h => Ne.symm h)).2 hf.ne
  have hpd := hpw.sublist (List.drop_sublist m _)
  rw [hp] at hpd
  have hne := (List.pairwise_cons.1 hpd).1
  have hn : ∀ r ∈ ((rot k l).drop (m + 1)).reverse, r.1 ≠ l[j].1 := fun r hr => (hne r (List.mem_reverse.1 hr)).symm
  refine ⟨put_new (p := (l[j].1, s)) hn, ?_⟩
  rw [hp, List.reverse_cons]
  exact put_last (p := (l[j].1, l[j].2)) (q := (l[j].1, s)) hn rfl
theorem order_end {l : List Tm.P} (k : Nat) : Tm.root 0 ((rot k l).drop 0).reverse = Tm.root 0 l ∧ ((rot k l).drop 0).reverse.length = l.length := by
  rw [List.drop_zero]
  exact ⟨Tm.root_perm 0 ((List.reverse_perm _).trans (rot_perm k l)), by rw [List.length_reverse, rot_length]⟩
theorem rem_at (t : Int) {n : Nat} (hn : 0 < n) : -(n : Int) < t.tmod n ∧ t.tmod n < n ∧ ∃ k : Nat, k < n ∧ (t.tmod n + n).tmod n = (k : Int) := by
  have h1 := Int.tmod_lt_of_pos t (show (0 : Int) < n by omega)
  have h2 : -(n : Int) < t.tmod n := by
    rcases Int.le_total 0 t with h | h
    · have := Int.tmod_nonneg (n : Int) h; omega
    · have h3 := Int.tmod_lt_of_pos (-t) (show (0 : Int) < n by omega)
      rw [Int.neg_tmod] at h3
      omega
  refine ⟨h2, h1, ((t.tmod n + n).tmod n).toNat, ?_, ?_⟩
  · have := Int.tmod_lt_of_pos (t.tmod n + n) (show (0 : Int) < n by omega)
    have := Int.tmod_nonneg (n : Int) (show 0 ≤ t.tmod n + n by omega)
    omega
  · have := Int.tmod_nonneg (n : Int) (show 0 ≤ t.tmod n + n by omega)
    omega
set_option maxRecDepth 100000 in
set_option maxHeartbeats 4000000 in
theorem walk (hB : BegunOk) {A A' : Option Addr} {n c n' c' : Nat} {ks vs : List Int} (turn : Int) (w : World) (hg : Gl w) (ha : RdZ w A n c ks) (hb : RdZ w A' n' c' vs) (ht1 : -9223372036854775808 ≤ turn) (ht2 : turn ≤ 9223372036854775807) :
    Calls Tryd.prog 4 #[.slice A n c, .slice A' n' c', .int .i64 turn] w fun e w' => e = .returned (.bool true) ∧ Below w.heap.size w w' := by
  have HG := Lib.hid hg
  have hsz := hg.size
  have CG : Hid (∀ W, Below w.heap.size w W → Calls Tryd.prog 14 #[] W fun e w' => e = .returned (.bool true) ∧ Below W.heap.size W w') := fun W hW => hB (hg.below hW hsz)
  have CGR : Hid (∀ W, Below w.heap.size w W → Calls Tryd.prog 15 #[.slice A n c, .slice A' n' c', .int .i64 10] W fun e w' => ∃ g v l, e = .returned (.tuple #[.pointer (some ⟨g, 0, none⟩), v, .bool true]) ∧ W.heap.size ≤ g ∧ TreeAt w' g l ∧ Ow2 w' W.heap.size 47 64 v (pairs l) ∧ l.length ≤ 10 ∧ Below W.heap.size W w') := fun W hW => grown_any (hg.below hW hsz) (ha.below hW) (hb.below hW) (most := 10) (by omega)
  have BZ0 := Lib.hid zero_built
  have IZ := Lib.hid zero_info
  have OZ := Lib.hid zero_one
  have HZL : Hid ((List.replicate 32 (Value.int .u8 0)).length = 32) := rfl
  have HZN : Hid (Tm.none32.map cellOf = (List.replicate 32 (Value.int .u8 0))) := rfl
  have ZB0 : Hid (∀ W : World, Blk (W.alloc (.cells (List.replicate 32 (Value.int .u8 0)).toArray 30)) W.heap.size 30 (List.replicate 32 (Value.int .u8 0))) := fun W => Blk.new W 30 _
  have ZPB : Hid (∀ W : World, Blk (W.alloc (.cells (proofL (.slice none 0 0) false (List.replicate 32 (Value.int .u8 0)) (List.replicate 32 (Value.int .u8 0))).toArray 38)) W.heap.size 38 (proofL (.slice none 0 0) false (List.replicate 32 (Value.int .u8 0)) (List.replicate 32 (Value.int .u8 0)))) := fun W => Blk.new W 38 _
  have HZP : Hid ((proofL (.slice none 0 0) false (List.replicate 32 (Value.int .u8 0)) (List.replicate 32 (Value.int .u8 0))).length = 66) := rfl
  obtain ⟨Z, hZ⟩ : ∃ Z, Z = List.replicate 32 (Value.int .u8 0) := ⟨_, rfl⟩
  rw [← hZ] at BZ0 IZ OZ HZL HZN
  have ZB : Hid (∀ W : World, Blk (W.alloc (.cells (List.replicate 32 (Value.int .u8 0)).toArray 30)) W.heap.size 30 Z) := fun W => by rw [hZ]; exact ZB0.out W
  have HZE : Hid ((List.replicate 32 (Value.int .u8 0)) = Z) := hZ.symm
  obtain ⟨ZP, hZP⟩ : ∃ Z, Z = (proofL (.slice none 0 0) false (List.replicate 32 (Value.int .u8 0)) (List.replicate 32 (Value.int .u8 0))) := ⟨_, rfl⟩
  have ZPB' : Hid (∀ W : World, Blk (W.alloc (.cells (proofL (.slice none 0 0) false (List.replicate 32 (Value.int .u8 0)) (List.replicate 32 (Value.int .u8 0))).toArray 38)) W.heap.size 38 ZP) := fun W => by rw [hZP]; exact ZPB.out W
  have HZPE : Hid ((proofL (.slice none 0 0) false (List.replicate 32 (Value.int .u8 0)) (List.replicate 32 (Value.int .u8 0))) = ZP) := hZP.symm
  rw [← hZP] at HZP
  have W := Lib.hid (Below.refl w.heap.size w)
  clear hg ha hb hZ hZP ZB0 ZPB
  go_enter Tryd.func4, Tryd.ntmps4
  go_upto_region 4 with (first
    | (go_at_call 14; refine (CG.out w W.out).mono ?_; rintro e w2 ⟨rfl, hX⟩; replace W := Lib.hid (W.out.trans (hX.mono W.out.size)); clear hX))
  go_upto_region 5 with (first
    | (go_at_call 15; refine (CGR.out w2 W.out).mono ?_; rintro e w3 ⟨g, vl, l, rfl, hgw0, hT, hO, hlen, hX⟩; obtain ⟨AL, cl, hvl0, hRL, _⟩ := hO.rd; obtain rfl := hvl0; have T := Lib.hid hT; have RL := Lib.hid hRL; have HLN := Lib.hid hlen; have hgw := Nat.le_trans W.out.size hgw0; have W2S := W.out.size; replace W := Lib.hid (W.out.trans (hX.mono W.out.size)); have OL := Lib.hid (hO.base W2S); clear hT hO hX hRL hgw0 hlen W2S CGR CG))
  obtain ⟨nl, hnl⟩ : ∃ z, z = (pairs l).length := ⟨_, rfl⟩
  have HNL : Hid (nl = l.length) := by unfold Hid; rw [hnl]; simp [pairs]
  rw [← hnl] at RL ⊢
  have OL' : Hid (Ow2 w3 w.heap.size 47 64 (.slice AL nl cl) (pairs l)) := by rw [hnl]; exact OL.out
  clear hnl OL
  have hfit := T.out.fit
  by_cases h0 : nl = 0
  case pos =>
    subst h0
    have d0 : decide (((0 : Nat) : Int) = 0) = true := by simp
    go_wp2_with fail
    go_ret
    exact ⟨rfl, W.out⟩
  have hnz : ¬ (nl : Int) = 0 := by omega
  have hll : nl = l.length := HNL.out
  obtain ⟨hm1, hm2, kk, hkk, ek⟩ := rem_at turn (show 0 < nl by omega)
  have hnl10 : nl ≤ 10 := by have := HLN.out; omega
  have hmw : IntKind.i64.wrap (turn.tmod (nl : Int) + (nl : Int)) = turn.tmod (nl : Int) + (nl : Int) := wrap_small _ (by omega) (by omega)
  have hrl := Tm.root_length 0 l
  have hul := nm_length turn
  have hs7 := sm_length 7
  have hs9 := sm_length 900
  have C7 : Hid (∀ W, Calls Tryd.prog 27 #[.int .i64 7] W fun e w' => e = .returned (hv (sm 7)) ∧ Below W.heap.size W w') := fun W => sm_any 7 W
  have C9 : Hid (∀ W, Calls Tryd.prog 27 #[.int .i64 900] W fun e w' => e = .returned (hv (sm 900)) ∧ Below W.heap.size W w') := fun W => sm_any 900 W
  have CN : Hid (∀ W, Calls Tryd.prog 20 #[.int .i64 turn] W fun e w' => e = .returned (hv (nm turn)) ∧ Below W.heap.size W w') := fun W => nm_any turn ht1 ht2 W
  have CR : Hid (∀ W, TreeAt W g l → Calls Tryd.prog 17 #[.pointer (some ⟨g, 0, none⟩)] W fun e w' => e = .returned (hv (Tm.root 0 l)) ∧ Below W.heap.size W w') := fun W hT => troot_any hT
  have DR : Hid (∀ W, Rd2 W 64 AL nl cl (pairs l) → Calls Tryd.prog 18 #[.slice AL nl cl, .int .i64 0] W fun e w' => e = .returned (hv (Tm.root 0 l)) ∧ Below W.heap.size W w') := fun W hR => rroot_any 257 l 0 rfl hR hfit (by omega)
  have ER := Lib.hid (hash_eq (Tm.root 0 l) (Tm.root 0 l) hrl hrl)
  rw [decide_eq_true rfl] at ER
  have HRD : Hid (∀ W, Ow2 W w.heap.size 47 64 (.slice AL nl cl) (pairs l) → Rd2 W 64 AL nl cl (pairs l)) := fun W h => h.rds.1
  have ZB2 : Hid (∀ W : World, Blk (W.alloc (.cells (List.replicate 64 (Value.int .u8 0)).toArray 47)) W.heap.size 47 (List.replicate 64 (Value.int .u8 0))) := fun W => Blk.new W 47 _
  obtain ⟨Z2, hZ2⟩ : ∃ Z, Z = List.replicate 64 (Value.int .u8 0) := ⟨_, rfl⟩
  have HZ2 : Hid (Z2.length = 64) := by unfold Hid; rw [hZ2]; rfl
  have ZB2' : Hid (∀ W : World, Blk (W.alloc (.cells (List.replicate 64 (Value.int .u8 0)).toArray 47)) W.heap.size 47 Z2) := fun W => by rw [hZ2]; exact ZB2.out W
  obtain ⟨ru, hru⟩ : ∃ r, r = rot kk l := ⟨_, rfl⟩
  have HRU := Lib.hid hru
  have HLL := Lib.hid hll
  have hrul : ru.length = nl := by rw [hru, rot_length, hll]
  have HEND : Hid (Tm.root 0 (ru.drop 0).reverse = Tm.root 0 l ∧ (ru.drop 0).reverse.length = nl) := by
    have := order_end (l := l) kk
    rw [← hru, ← hll] at this
    exact this
  unfold hv at C7 C9 CN CR DR
  have IRC := Lib.hid (hash_info (hrl))
  have ORC := Lib.hid (cells_u8 (Tm.root 0 l))
  have LRC : Hid (Z.length = ((Tm.root 0 l).map cellOf).length) := by unfold Hid; rw [List.length_map, hrl, HZL.out]
  obtain ⟨RC, hRC⟩ : ∃ L, L = (Tm.root 0 l).map cellOf := ⟨_, rfl⟩
  have NRC : Hid (RC.length = 32) := by unfold Hid; rw [hRC, List.length_map, hrl]
  rw [← hRC] at IRC ORC LRC CR DR ER
  have ERC := Lib.hid hRC
  clear hRC
  have IS7 := Lib.hid (hash_info (hs7))
  have OS7 := Lib.hid (cells_u8 (sm 7))
  have LS7 : Hid (Z.length = ((sm 7).map cellOf).length) := by unfold Hid; rw [List.length_map, hs7, HZL.out]
  obtain ⟨S7, hS7⟩ : ∃ L, L = (sm 7).map cellOf := ⟨_, rfl⟩
  have NS7 : Hid (S7.length = 32) := by unfold Hid; rw [hS7, List.length_map, hs7]
  rw [← hS7] at IS7 OS7 LS7 C7
  have ES7 := Lib.hid hS7
  clear hS7
  have IS9 := Lib.hid (hash_info (hs9))
  have OS9 := Lib.hid (cells_u8 (sm 900))
  have LS9 : Hid (Z.length = ((sm 900).map cellOf).length) := by unfold Hid; rw [List.length_map, hs9, HZL.out]
  obtain ⟨S9, hS9⟩ : ∃ L, L = (sm 900).map cellOf := ⟨_, rfl⟩
  have NS9 : Hid (S9.length = 32) := by unfold Hid; rw [hS9, List.length_map, hs9]
  rw [← hS9] at IS9 OS9 LS9 C9
  have ES9 := Lib.hid hS9
  clear hS9
  have IUC := Lib.hid (hash_info (hul))
  have OUC := Lib.hid (cells_u8 (nm turn))
  have LUC : Hid (Z.length = ((nm turn).map cellOf).length) := by unfold Hid; rw [List.length_map, hul, HZL.out]
  obtain ⟨UC, hUC⟩ : ∃ L, L = (nm turn).map cellOf := ⟨_, rfl⟩
  have NUC : Hid (UC.length = 32) := by unfold Hid; rw [hUC, List.length_map, hul]
  rw [← hUC] at IUC OUC LUC CN
  have EUC := Lib.hid hUC
  clear hUC
  clear hZ2 ZB2 hru hll hm1 hm2
  go_upto_region 8 with (first
    | (go_at_call 25; refine (tnew_any w3).mono ?_; rintro e w4 ⟨h, rfl, hU, hhw0, hX⟩; have hgh : g < h := Nat.lt_of_lt_of_le T.out.lt hhw0; have hhw := Nat.le_trans W.out.size hhw0; replace T := Lib.hid (T.out.low hX); replace OL' := Lib.hid (OL'.out.below hX); replace W := Lib.hid (W.out.trans (hX.mono W.out.size)); have U := Lib.hid hU; clear hU hX hhw0))
  go_upto_region 9 with (fail)
  have U0 : Hid (TreeAt w4 h (ru.drop nl).reverse) := by unfold Hid; rw [List.drop_of_length_le (by omega)]; exact U.out
  clear hmw ek U
  have hn1 : ((nl : Int) - 1) = ((nl : Int) - 1) := rfl
  go_wp2_with fail
  go_loopw [13] (fun iv wr => ∃ m : Nat, m ≤ nl ∧ iv = .int .i64 ((m : Int) - 1) ∧ Hid (TreeAt wr g l) ∧ Hid (Ow2 wr w.heap.size 47 64 (.slice AL nl cl) (pairs l)) ∧ Hid (TreeAt wr h (ru.drop m).reverse) ∧ Hid (Below w.heap.size w wr)) (fun i _ => (intOf i + 1).toNat)
  case atStart => exact ⟨nl, Nat.le_refl _, by go_num, T, OL', U0, W⟩
  case round =>
    clear T OL' W U0
    obtain ⟨m, hmm, rfl, T, OL', U, W⟩ := hrel
    cases m with
    | zero =>
      have e0' : ((0 : Nat) : Int) - 1 = -1 := rfl
      rw [e0']
      have U' : Hid (TreeAt wr h (ru.drop 0).reverse) := U
      clear U
      have hlu := HEND.out.2
      obtain ⟨lu, hlu'⟩ : ∃ l', l' = (ru.drop 0).reverse := ⟨_, rfl⟩
      rw [← hlu'] at U' HEND hlu
      have HLU := Lib.hid hlu
      have CC : Hid (∀ W, TreeAt W h lu → Calls Tryd.prog 28 #[.pointer (some ⟨h, 0, none⟩)] W fun e w' => ∃ g', e = .returned (.pointer (some ⟨g', 0, none⟩)) ∧ TreeAt w' g' lu ∧ W.heap.size ≤ g' ∧ Below W.heap.size W w') := fun W hT => tcopy_any hT
      have CP : Hid (∀ W, Below w.heap.size w W → TreeAt W h lu → Calls Tryd.prog 26 #[.pointer (some ⟨h, 0, none⟩), .agg UC.toArray, .agg S9.toArray] W fun e w' => (∃ b, e = .returned (.bool b)) ∧ W.grownBy w' (some h)) := fun W hW hT => by
        have := tput_any (HG.out.below hW hsz) hT (Nat.le_trans hsz hhw) (by omega) hul hs9
        unfold hv at this
        rw [← EUC.out, ← ES9.out] at this
        exact this.mono fun e w' ⟨h1, _, h3⟩ => ⟨⟨_, h1⟩, h3⟩
      clear hlu hlu' hul hs9 hs7
      go_upto_region 16 with (first
        | (go_at_call 28; refine (CC.out wr U'.out).mono ?_; rintro e w5 ⟨c0, rfl, hC, hc0, hX⟩; have hhc : h < c0 := Nat.lt_of_lt_of_le U'.out.lt hc0; replace T := Lib.hid (T.out.low hX); replace OL' := Lib.hid (OL'.out.below hX); replace U' := Lib.hid (U'.out.low hX); replace W := Lib.hid (W.out.trans (hX.mono W.out.size)); have C := Lib.hid hC; clear hC hX hc0))
      go_upto_region 17 with (first
        | (go_at_call 20; refine (CN.out w5).mono ?_; rintro e w6 ⟨rfl, hX⟩; replace T := Lib.hid (T.out.low hX); replace OL' := Lib.hid (OL'.out.below hX); replace U' := Lib.hid (U'.out.low hX); replace C := Lib.hid (C.out.low hX); replace W := Lib.hid (W.out.trans (hX.mono W.out.size)); clear hX)
        | (go_at_call 27; refine (C9.out w6).mono ?_; rintro e w7 ⟨rfl, hX⟩; replace T := Lib.hid (T.out.low hX); replace OL' := Lib.hid (OL'.out.below hX); replace U' := Lib.hid (U'.out.low hX); replace C := Lib.hid (C.out.low hX); replace W := Lib.hid (W.out.trans (hX.mono W.out.size)); clear hX)
        | (go_at_call 26; refine (CP.out w7 W.out U'.out).mono ?_; rintro e w8 ⟨⟨bb, rfl⟩, hG⟩; replace T := Lib.hid (tree_put T.out U'.out (by omega) hG); replace C := Lib.hid (tree_put C.out U'.out (by omega) hG); replace OL' := Lib.hid (row_keeps U'.out OL'.out (by decide) hG); replace W : Hid (Below w.heap.size w _) := W.out.grown hG W.out.size (fun q hq => by have e : h = q := Option.some.inj hq; omega); clear hG U'))
      have CRC : Hid (∀ W, TreeAt W c0 lu → Calls Tryd.prog 17 #[.pointer (some ⟨c0, 0, none⟩)] W fun e w' => e = .returned (.agg RC.toArray) ∧ Below W.heap.size W w') := fun W hT => by
        have := troot_any hT
        rw [HEND.out.1] at this
        unfold hv at this
        rw [← ERC.out] at this
        exact this
      have CLN : Hid (∀ W, TreeAt W c0 lu → Calls Tryd.prog 16 #[.pointer (some ⟨c0, 0, none⟩)] W fun e w' => e = .returned (.int .i64 (nl : Int)) ∧ W = w') := fun W hT => by
        have := tlen_any hT
        rwa [HLU.out] at this
      have er := ER.out
      go_wp2_with (first
        | (go_at_call 17; refine (CRC.out w8 C.out).mono ?_; rintro e w9 ⟨rfl, hX⟩; replace T := Lib.hid (T.out.low hX); replace OL' := Lib.hid (OL'.out.below hX); replace C := Lib.hid (C.out.low hX); replace W := Lib.hid (W.out.trans (hX.mono W.out.size)); clear hX)
        | (go_at_call 17; refine (CR.out w9 T.out).mono ?_; rintro e wa ⟨rfl, hX⟩; replace T := Lib.hid (T.out.low hX); replace OL' := Lib.hid (OL'.out.below hX); replace C := Lib.hid (C.out.low hX); replace W := Lib.hid (W.out.trans (hX.mono W.out.size)); clear hX)
        | (go_at_call 16; refine (CLN.out wa C.out).mono ?_; rintro e wb ⟨rfl, rfl⟩; skip)
        | (go_at_call 17; refine (CR.out wa T.out).mono ?_; rintro e wc ⟨rfl, hX⟩; replace T := Lib.hid (T.out.low hX); replace OL' := Lib.hid (OL'.out.below hX); replace C := Lib.hid (C.out.low hX); replace W := Lib.hid (W.out.trans (hX.mono W.out.size)); clear hX)
        | (go_at_call 18; refine (DR.out wc (HRD.out _ OL'.out)).mono ?_; rintro e wd ⟨rfl, hX⟩; replace T := Lib.hid (T.out.low hX); replace OL' := Lib.hid (OL'.out.below hX); replace C := Lib.hid (C.out.low hX); replace W := Lib.hid (W.out.trans (hX.mono W.out.size)); clear hX))
      go_ret
      exact ⟨rfl, W.out⟩
    | succ i =>
      have ei : ((i + 1 : Nat) : Int) - 1 = (i : Int) := by omega
      rw [ei]
      clear ei
      have hij : (i + kk) % nl < l.length := by rw [← HLL.out]; exact Nat.mod_lt _ (by omega)
      obtain ⟨j, hj⟩ : ∃ j, j = (i + kk) % nl := ⟨_, rfl⟩
      rw [← hj] at hij
      have hwi : IntKind.i64.wrap ((i : Int) + (kk : Int)) = (i : Int) + (kk : Int) := wrap_small _ (by omega) (by omega)
      have hri : ((i : Int) + (kk : Int)).tmod (nl : Int) = (j : Int) := by
        rw [hj, Int.tmod_eq_emod_of_nonneg (by omega)]
        simp
      obtain ⟨hp1, hp2⟩ := order_step hfit (k := kk) (m := i) (j := j) (by rw [← HLL.out]; omega) (by rw [← HLL.out]; omega) hij (by rw [← HLL.out]; exact hj) (sm 7)
      rw [← HRU.out] at hp1 hp2
      have hlk := hfit.len l[j] (List.getElem_mem hij)
      obtain ⟨b, off, hA, hb, hjn, hc0, _, _⟩ := rd2_pair (HRD.out _ OL'.out) hfit.len hij
      have hri2 := fun W => index_pair b off nl cl j hjn W
      obtain ⟨o, ho⟩ : ∃ o, o = off + j * 64 := ⟨_, rfl⟩
      rw [← ho] at hri2 hc0
      subst hA
      have IPL := Lib.hid (pair_size hlk.1 hlk.2)
      have OPL := Lib.hid (leafL_one l[j])
      have LPL : Hid (Z2.length = (leafL l[j]).length) := by unfold Hid; rw [HZ2.out, leafL_length hlk.1 hlk.2]
      have IA := Lib.hid (hash_info hlk.1)
      have IM := Lib.hid (hash_info hlk.2)
      have LNA : Hid (∀ W q, Blk W q 47 (leafL l[j]) → ∀ y x, (l[j].1.map cellOf)[y]? = some x → W.cell? ⟨q, 0 + y, none⟩ = some x) := fun W q hB y x hx => by
        have hy : y < 32 := by have := (List.getElem?_eq_some_iff.1 hx).1; simpa [hlk.1] using this
        rw [Nat.zero_add, hB.cell, leafL, List.getElem?_append_left (by simpa [hlk.1] using hy), hx]
      have LNM : Hid (∀ W q, Blk W q 47 (leafL l[j]) → ∀ y x, (l[j].2.map cellOf)[y]? = some x → W.cell? ⟨q, 32 + y, none⟩ = some x) := fun W q hB y x hx => by
        rw [hB.cell, leafL, List.getElem?_append_right (by simp [hlk.1]), List.length_map, hlk.1, Nat.add_sub_cancel_left, hx]
      have hdl : (ru.drop (i + 1)).reverse.length ≤ 10 := by rw [List.length_reverse, List.length_drop]; omega
      obtain ⟨lu, hlu⟩ : ∃ z, z = (ru.drop (i + 1)).reverse := ⟨_, rfl⟩
      obtain ⟨lv, hlv⟩ : ∃ z, z = lu ++ [(l[j].1, sm 7)] := ⟨_, rfl⟩
      obtain ⟨lw, hlw⟩ : ∃ z, z = (ru.drop i).reverse := ⟨_, rfl⟩
      rw [← hlu] at hp1 hp2 hdl U
      rw [← hlv] at hp1 hp2
      rw [← hlw] at hp2
      have hvl : lv.length ≤ 11 := by rw [hlv]; simp; omega
      have CP7 : Hid (∀ W, Below w.heap.size w W → TreeAt W h lu → Calls Tryd.prog 26 #[.pointer (some ⟨h, 0, none⟩), hv l[j].1, hv (sm 7)] W fun e w' => (∃ b, e = .returned (.bool b)) ∧ TreeAt w' h lv ∧ W.grownBy w' (some h)) := fun W hW hT => by
        have := tput_any (HG.out.below hW hsz) hT (Nat.le_trans hsz hhw) (by omega) hlk.1 hs7
        rw [hp1] at this
        exact this.mono fun e w' ⟨h1, h2⟩ => ⟨⟨_, h1⟩, h2⟩
      have CP8 : Hid (∀ W, Below w.heap.size w W → TreeAt W h lv → Calls Tryd.prog 26 #[.pointer (some ⟨h, 0, none⟩), hv l[j].1, hv l[j].2] W fun e w' => (∃ b, e = .returned (.bool b)) ∧ TreeAt w' h lw ∧ W.grownBy w' (some h)) := fun W hW hT => by
        have := tput_any (HG.out.below hW hsz) hT (Nat.le_trans hsz hhw) (by omega) hlk.1 hlk.2
        rw [hp2] at this
        exact this.mono fun e w' ⟨h1, h2⟩ => ⟨⟨_, h1⟩, h2⟩
      unfold hv at CP7 CP8
      rw [← ES7.out] at CP7
      obtain ⟨PL, hPL⟩ : ∃ L, L = leafL l[j] := ⟨_, rfl⟩
      obtain ⟨AC, hAC⟩ : ∃ L, L = l[j].1.map cellOf := ⟨_, rfl⟩
      obtain ⟨MC, hMC⟩ : ∃ L, L = l[j].2.map cellOf := ⟨_, rfl⟩
      rw [← hPL] at IPL OPL LPL LNA LNM hc0
      rw [← hAC] at CP7 CP8 LNA IA
      rw [← hMC] at CP8 LNM IM
      have HC0 := Lib.hid hc0
      have ELW := Lib.hid hlw
      clear hc0 hj hp1 hp2 ho hdl hlu hlv hlw hvl hPL hAC hMC hb
      go_upto_region 13 with (first
        | (with_reducible refine load_law rfl 47 (.tmp 59) rfl b o rfl PL _ Tryd.underlying47 rfl IPL.out HC0.out ?_)
        | ((with_reducible refine storeGen_law rfl 47 (.tmp 14) (.tmp 60) rfl wr.heap.size rfl PL rfl 47 Z2 IPL.out LPL.out OPL.out wr.heap.size wr ?_ ?_ (Nat.le_refl _) ?_)
           · exact ZB2'.out wr
           · exact alloc_below wr _
           intro w5 BP hX'; have hX := hX'.out; clear hX'; replace T := Lib.hid (T.out.low hX); replace OL' := Lib.hid (OL'.out.below hX); replace U := Lib.hid (U.out.low hX); replace W := Lib.hid (W.out.trans (hX.mono W.out.size)); clear hX))
      obtain ⟨q1, hq1⟩ : ∃ q, q = wr.heap.size := ⟨_, rfl⟩
      rw [← hq1] at BP ⊢
      clear hq1 HC0
      have hX := (Below.refl w5.heap.size w5).drew
      replace T := Lib.hid (T.out.low hX)
      replace OL' := Lib.hid (OL'.out.below hX)
      replace U := Lib.hid (U.out.low hX)
      replace BP := Lib.hid (BP.out.below hX BP.out.lt)
      replace W := Lib.hid (W.out.trans (hX.mono W.out.size))
      clear hX
      refine wp_region_any (by kernel_rfl) ?_
      change wpAny _ _ _ _ _ _ _ (World.drew _)
      generalize w5.drew = wd at *
      refine wpAny_take (i := 0) (oi := ?oi1) (v := .pointer (some ⟨h, 0, none⟩)) ?hi1 (by kernel_rfl) (by kernel_rfl) (by kernel_rfl) ?hQ1 ?hy1 ?rest1
      case hi1 => simp only [zge]; rfl
      case hQ1 => exact fun _ _ _ h => h
      case hy1 => exact Or.inl ⟨by rfl, by intro w; go_simp⟩
      try simp only [zpt]
      refine wpAny_take (i := 1) (oi := ?oi2) (v := .pointer (some ⟨q1, 0, none⟩)) ?hi2 (by kernel_rfl) (by kernel_rfl) (by kernel_rfl) ?hQ2 ?hy2 ?rest2
      case hi2 => simp only [zge]; rfl
      case hQ2 => exact fun _ _ _ h => h
      case hy2 => exact Or.inl ⟨by rfl, by intro w; go_simp⟩
      try simp only [zpt]
      refine phaseL (fun i => []) (fun d a w' => ∃ x63 x64 : Value, a = { tmps := #[.slice A n c, .slice A' n' c', .int .i64 turn, undef, undef, undef, .bool false, .bool true, .pointer (some ⟨g, 0, none⟩), .slice (some ⟨b, off, none⟩) nl cl, .bool true, .pointer (some ⟨h, 0, none⟩), .int .i64 (kk : Int), .int .i64 (i : Int), .pointer (some ⟨q1, 0, none⟩), undef, .bool true, .bool true, .bool false, .tuple #[.pointer (some ⟨g, 0, none⟩), .slice (some ⟨b, off, none⟩) nl cl, .bool true], .slice A n c, .slice A' n' c', .tuple #[.pointer (some ⟨g, 0, none⟩), .slice (some ⟨b, off, none⟩) nl cl, .bool true], .pointer (some ⟨g, 0, none⟩), .slice (some ⟨b, off, none⟩) nl cl, .bool true, .bool true, .bool false, .bool false, .slice (some ⟨b, off, none⟩) nl cl, .int .i64 (nl : Int), .bool false, .bool false, undef, .pointer (some ⟨h, 0, none⟩), .int .i64 turn, .slice (some ⟨b, off, none⟩) nl cl, .int .i64 (nl : Int), .int .i64 (turn.tmod (nl : Int)), .slice (some ⟨b, off, none⟩) nl cl, .int .i64 (nl : Int), .int .i64 (turn.tmod (nl : Int) + (nl : Int)), .slice (some ⟨b, off, none⟩) nl cl, .int .i64 (nl : Int), .int .i64 (kk : Int), .slice (some ⟨b, off, none⟩) nl cl, .int .i64 (nl : Int), .int .i64 ((nl : Int) - 1), .int .i64 (i : Int), .bool true, u50, u51, .slice (some ⟨b, off, none⟩) nl cl, .int .i64 (i : Int), .int .i64 (kk : Int), .int .i64 ((i : Int) + (kk : Int)), .slice (some ⟨b, off, none⟩) nl cl, .int .i64 (nl : Int), .int .i64 (j : Int), .pointer (some ⟨b, o, none⟩), .agg PL.toArray, .pointer (some ⟨h, 0, none⟩), .pointer (some ⟨q1, 0, none⟩), x63, x64, u65, u66, u67, u68, u69, u70, u71, undef, undef, undef, undef, undef, undef, undef, undef, undef, undef, undef, undef, undef, undef, undef, undef, undef, undef, undef, undef, undef, undef, undef, undef, undef, undef, undef, undef, undef, undef], defers := [] } ∧ Hid (Below wd.heap.size wd w') ∧ (d 2 = true → x63 = .agg AC.toArray) ∧ (d 3 = true → x64 = .agg S7.toArray)) [2, 3] ?step3 1 2 [2, 3] _ _ _ rfl (by decide) (fun _ h => h) (Fits.of (by kernel_rfl)) ?init3 ?fin3
      case init3 => refine ⟨_, _, rfl, Below.refl _ _, ?_, ?_⟩ <;> (intro h; exact absurd h (by decide))
      case step3 =>
        intro i hi d a v3 hI hdi hdeps
        obtain ⟨x63, x64, rfl, BW, h2, h3⟩ := hI
        have hsw := BW.out.size
        simp only [List.mem_cons, List.not_mem_nil, or_false] at hi
        rcases hi with rfl | rfl
        · refine wpOp_step (o := ?os4) ?hos4 (fun K hK => ?_)
          case hos4 => simp only [zge]; rfl
          refine step_loadW rfl 30 (.tmp 62) rfl q1 0 rfl AC _ Tryd.underlying30 rfl IA.out (LNA.out _ _ (BP.out.below BW.out BP.out.lt)) (hK _ _ ?_)
          clear hK K
          try simp only [zpt]
          exact ⟨_, _, rfl, BW, fun _ => rfl, fun a => by first | exact h3 (by simpa using a) | rfl⟩
        · refine wpOp_step (o := ?os5) ?hos5 (fun K hK => ?_)
          case hos5 => simp only [zge]; rfl
          go_simp
          refine (C7.out v3 ).mono ?_
          rintro e u3 ⟨rfl, hX⟩
          refine hK _ _ ?_
          clear hK K
          try simp only [zpt]
          exact ⟨_, _, rfl, BW.out.trans (hX.mono hsw), fun a => by first | exact h2 (by simpa using a) | rfl, fun _ => rfl⟩
      case fin3 =>
        intro a v3 hI
        obtain ⟨x63, x64, rfl, BW, h2, h3⟩ := hI
        obtain rfl := h2 (by decide)
        obtain rfl := h3 (by decide)
        clear h2 h3
        have hX := BW.out
        replace T := Lib.hid (T.out.low hX)
        replace OL' := Lib.hid (OL'.out.below hX)
        replace U := Lib.hid (U.out.low hX)
        replace BP := Lib.hid (BP.out.below hX BP.out.lt)
        replace W := Lib.hid (W.out.trans (hX.mono W.out.size))
        clear hX BW
        try dsimp only
        refine wpAny_ready (rs := [4]) (by kernel_rfl) (by simp) ?_
        refine AllReady.cons (o := ?p6) ?q6 (fun K hK => ?_) AllReady.nil
        case q6 => simp only [zge]; rfl
        go_simp
        refine (CP7.out v3 W.out U.out).mono ?_
        rintro e w6 ⟨⟨bb, rfl⟩, hU, hG⟩
        replace T := Lib.hid (tree_put T.out U.out (by omega) hG)
        replace OL' := Lib.hid (row_keeps U.out OL'.out (by decide) hG)
        replace BP := Lib.hid (put_keeps U.out BP.out (by decide) hG)
        replace W : Hid (Below w.heap.size w _) := W.out.grown hG W.out.size (fun q hq => by have e : h = q := Option.some.inj hq; omega)
        replace U := Lib.hid hU
        clear hU hG
        refine hK _ _ ?_
        clear hK K
        try simp only [zpt]
        refine wpAny_done (by kernel_rfl) ?_ _
        have lna := Lib.hid (LNA.out _ _ BP.out)
        have lnm := Lib.hid (LNM.out _ _ BP.out)
        go_wp2_with (first
          | (with_reducible refine load_law rfl 30 (.tmp 67) rfl q1 0 rfl AC _ Tryd.underlying30 rfl IA.out lna.out ?_)
          | (with_reducible refine load_law rfl 30 (.tmp 69) rfl q1 32 rfl MC _ Tryd.underlying30 rfl IM.out lnm.out ?_)
          | (go_at_call 26; refine (CP8.out w6 W.out U.out).mono ?_; rintro e w7 ⟨⟨bc, rfl⟩, hU, hG⟩; replace T := Lib.hid (tree_put T.out U.out (by omega) hG); replace OL' := Lib.hid (row_keeps U.out OL'.out (by decide) hG); replace BP := Lib.hid (put_keeps U.out BP.out (by decide) hG); replace W : Hid (Below w.heap.size w _) := W.out.grown hG W.out.size (fun q hq => by have e : h = q := Option.some.inj hq; omega); replace U := Lib.hid hU; clear hU hG))
        have U9 : Hid (TreeAt w7 h (ru.drop i).reverse) := by unfold Hid; rw [← ELW.out]; exact U.out
        go_roundw
        case rel => exact ⟨i, by omega, by go_num, T, OL', U9, W⟩
        case measure => simp [intOf]
end Go.Proofs.YtmidbpjdpakkoaaDoor.treeOrder
