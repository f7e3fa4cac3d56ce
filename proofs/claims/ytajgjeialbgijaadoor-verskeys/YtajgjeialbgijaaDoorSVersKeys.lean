import Derived.Test.YtajgjeialbgijaaDoorSVbg
import Derived.Test.YtajgjeialbgijaaDoorSVr
namespace Go.Proofs.YtajgjeialbgijaaDoor.versKeys
set_option linter.unusedVariables false
set_option linter.unusedSimpArgs false
set_option maxRecDepth 100000
open Go.RowKit Vs
def vOf (n : Int) : V := ⟨1, n, 1, no32, no32, 0, [0, 0, 0, 0], no32⟩
theorem vOf_ok {n : Int} (h : In n) : Ok (vOf n) := ⟨rfl, rfl, rfl, rfl, (by decide : In 1), h, (by decide : In 1), (by decide : In 0), (by decide : ∀ z ∈ ([0, 0, 0, 0] : List Int), In z)⟩
theorem vOf_built (n : Int) : Tryd.prog.built 30 [(0, .int .i64 1), (1, .int .i64 n), (2, .int .i64 1)] = some (vOf n).cells.toArray := by kernel_rfl
theorem look_next (s : Int) (a : Nat) (key b : List UInt8) (M : List Bx.BNote) : Bx.lookB key b (Bx.bookNext s a key b M) = some (Bx.bookOut s a key b M) := by
  unfold Bx.bookNext Bx.bookOut
  cases h : Bx.lookB key b M with
  | none => simp [lookB_app, h]
  | some o => simp [h]
theorem look_two (s : Int) (a : Nat) (k k' b1 b2 o : List UInt8) : Bx.lookB k' b1 (Bx.bookNext s a k b2 [⟨k, b1, o⟩]) = if k = k' then some o else none := by
  unfold Bx.bookNext
  split
  · exact look_one k k' b1 o
  · rw [lookB_app, look_one]
    by_cases h : k = k'
    · simp [h]
    · simp [h]
theorem sign_bytes (v : V) (t : List UInt8) : vbytes { v with tag := t } = vbytes v := rfl
set_option maxRecDepth 100000 in
set_option maxHeartbeats 1000000 in
theorem walk {P : BxP} (hB : BoxOk P) (a b : UInt8) (n m : Int) (w : World) (hg : Gl w) (hn : In n) (hm : In m) : Calls Tryd.prog 6 #[.int .u8 (a.toNat : Int), .int .u8 (b.toNat : Int), .int .i64 n, .int .i64 m] w fun e w' => e = .returned (.bool true) ∧ Below w.heap.size w w' := by
  have HG := Lib.hid hg
  have HB := Lib.hid hB
  have hsz := hg.size
  have CG : Hid (∀ W, Gl W → Calls Tryd.prog 7 #[] W fun e w' => e = .returned (.bool true) ∧ Below W.heap.size W w') := fun W hW => begun14_any hB hW
  have ZB := Lib.hid zero_blk
  obtain ⟨o1, ho1⟩ : ∃ o, o = Tap.tape 6 0 32 := ⟨_, rfl⟩
  have l1 : o1.length = 32 := by rw [ho1, Tap.tape_length]
  obtain ⟨B1, hB1⟩ : ∃ B, B = [Bx.BNote.mk (key1 a) (vbytes (vOf n)) o1] := ⟨_, rfl⟩
  have g1 : Bx.Good B1 := by rw [hB1]; intro x hx; simp at hx; subst hx; exact l1
  obtain ⟨o2, ho2⟩ : ∃ o, o = Bx.bookOut 6 (0 + 32) (key1 a) (vbytes (vOf m)) B1 := ⟨_, rfl⟩
  have l2 : o2.length = 32 := by rw [ho2]; exact Bx.bookOut_length _ _ _ _ _ g1
  obtain ⟨B2, hB2⟩ : ∃ B, B = Bx.bookNext 6 (0 + 32) (key1 a) (vbytes (vOf m)) B1 := ⟨_, rfl⟩
  have hs1 : Bx.lookB (key1 b) (vbytes (vOf n)) B2 = if key1 a = key1 b then some o1 else none := by rw [hB2, hB1]; exact look_two _ _ _ _ _ _ _
  have hs2 : Bx.lookB (key1 a) (vbytes (vOf m)) B2 = some o2 := by rw [hB2, ho2]; exact look_next _ _ _ _ _
  have hs3 : vbytes (vOf n) = vbytes (vOf m) → o2 = o1 := fun h => by
    rw [ho2, ← h, Bx.bookOut, hB1, look_one, if_pos rfl]
    rfl
  obtain ⟨st1, hst1⟩ : ∃ s, s = Bx.St.ideal 6 (0 + 32) [] B1 [] := ⟨_, rfl⟩
  obtain ⟨st2, hst2⟩ : ∃ s, s = Bx.St.ideal 6 (Bx.bookAt (0 + 32) (key1 a) (vbytes (vOf m)) B1) [] B2 [] := ⟨_, rfl⟩
  have okn := vOf_ok hn
  have okm := vOf_ok hm
  have ok1 : Ok { vOf n with tag := o1 } := signed_ok okn l1
  have ok2 : Ok { vOf m with tag := o2 } := signed_ok okm l2
  have CS1 : Hid (∀ (W : World) (g : Nat) (M : Nat → Prop), Gl W → (∀ b, M b → 2 ≤ b) → P W g (.ideal 6 0 [] [] []) M → Calls Tryd.prog 12 #[.pointer (some ⟨g, 0, none⟩), .agg ((key1 a).map cellOf).toArray, vval (vOf n)] W fun e w' => ∃ M', e = .returned (vval { vOf n with tag := o1 }) ∧ P w' g st1 M' ∧ Fr M W w' ∧ ∀ b, M' b → M b ∨ W.heap.size ≤ b) := fun W g M h1 h2 h3 => by
    rw [hst1, hB1, ho1]
    have := vsign_ideal hB okn h1 h2 h3 (by omega) (key1_length a)
    rw [book_out, book_at, book_next] at this
    exact this
  have CS2 : Hid (∀ (W : World) (g : Nat) (M : Nat → Prop), Gl W → (∀ b, M b → 2 ≤ b) → P W g st1 M → Calls Tryd.prog 12 #[.pointer (some ⟨g, 0, none⟩), .agg ((key1 a).map cellOf).toArray, vval (vOf m)] W fun e w' => ∃ M', e = .returned (vval { vOf m with tag := o2 }) ∧ P w' g st2 M' ∧ Fr M W w' ∧ ∀ b, M' b → M b ∨ W.heap.size ≤ b) := fun W g M h1 h2 h3 => by
    rw [hst1] at h3
    rw [hst2, hB2, ho2]
    have := vsign_ideal hB okm h1 h2 h3 (by omega) (key1_length a)
    exact this
  have CI1 : Hid (∀ (W : World) (g : Nat) (M : Nat → Prop), Gl W → P W g st2 M → Calls Tryd.prog 15 #[.pointer (some ⟨g, 0, none⟩), .agg ((key1 b).map cellOf).toArray, vval { vOf n with tag := o1 }] W fun e w' => e = .returned (.bool (decide (a = b))) ∧ Below W.heap.size W w') := fun W g M h1 h2 => by
    rw [hst2] at h2
    have := vis_ideal hB ok1 h1 h2 (key1_length b)
    have hd : decide (Bx.lookB (key1 b) (vbytes { vOf n with tag := o1 }) B2 = some ({ vOf n with tag := o1 } : V).tag) = decide (a = b) := by
      rw [Bool.eq_iff_iff, decide_eq_true_iff, decide_eq_true_iff, sign_bytes, hs1]
      by_cases hab : a = b
      · subst hab
        simp
      · rw [if_neg (key1_ne hab)]
        simp [hab]
    rw [hd] at this
    exact this
  have CI2 : Hid (∀ (W : World) (g : Nat) (M : Nat → Prop), Gl W → P W g st2 M → Calls Tryd.prog 15 #[.pointer (some ⟨g, 0, none⟩), .agg ((key1 a).map cellOf).toArray, vval { vOf m with tag := o2 }] W fun e w' => e = .returned (.bool true) ∧ Below W.heap.size W w') := fun W g M h1 h2 => by
    rw [hst2] at h2
    have := vis_ideal hB ok2 h1 h2 (key1_length a)
    have hd : decide (Bx.lookB (key1 a) (vbytes { vOf m with tag := o2 }) B2 = some ({ vOf m with tag := o2 } : V).tag) = true := decide_eq_true (by rw [sign_bytes, hs2])
    rw [hd] at this
    exact this
  have CB1 : Hid (∀ W, Calls Tryd.prog 14 #[vval { vOf n with tag := o1 }] W fun e w' => ∃ x, e = .returned x ∧ Ow w' W.heap.size x (vbytes (vOf n)) ∧ Below W.heap.size W w') := fun W => by
    have := rbytes_any ok1 W
    rw [sign_bytes] at this
    exact this
  have CB2 : Hid (∀ W, Calls Tryd.prog 14 #[vval { vOf m with tag := o2 }] W fun e w' => ∃ x, e = .returned x ∧ Ow w' W.heap.size x (vbytes (vOf m)) ∧ Below W.heap.size W w') := fun W => by
    have := rbytes_any ok2 W
    rw [sign_bytes] at this
    exact this
  have BN := Lib.hid (vOf_built n)
  have BM := Lib.hid (vOf_built m)
  have BKA := Lib.hid (key1_built a)
  have BKB := Lib.hid (key1_built b)
  have I1 := Lib.hid (vinfo ok1)
  have I2 := Lib.hid (vinfo ok2)
  have O1 := Lib.hid (cells_one { vOf n with tag := o1 })
  have O2 := Lib.hid (cells_one { vOf m with tag := o2 })
  have Z1 : Hid (zero.cells.length = ({ vOf n with tag := o1 } : V).cells.length) := by unfold Hid; rw [cells_length zero_ok, cells_length ok1]
  have Z2 : Hid (zero.cells.length = ({ vOf m with tag := o2 } : V).cells.length) := by unfold Hid; rw [cells_length zero_ok, cells_length ok2]
  have LT1 : Hid (∀ j x, (o1.map cellOf)[j]? = some x → ({ vOf n with tag := o1 } : V).cells[72 + j]? = some x) := lay_tag ok1
  have LT2 : Hid (∀ j x, (o2.map cellOf)[j]? = some x → ({ vOf m with tag := o2 } : V).cells[72 + j]? = some x) := lay_tag ok2
  have IT1 := Lib.hid (hinfo l1)
  have IT2 := Lib.hid (hinfo l2)
  have eTT := fun W => equalH 9998 o1 o2 l1 l2 W
  obtain ⟨same, hsame⟩ : ∃ s, s = decide (vbytes (vOf n) = vbytes (vOf m)) := ⟨_, rfl⟩
  have eTS : Hid (same = true → decide (o1 = o2) = true) := fun h => by
    rw [h] at hsame
    exact decide_eq_true (hs3 (of_decide_eq_true hsame.symm)).symm
  obtain ⟨eqT, heqT⟩ : ∃ s, s = decide (o1 = o2) := ⟨_, rfl⟩
  rw [← heqT] at eTT eTS
  obtain ⟨bn, hbn⟩ : ∃ x, x = vbytes (vOf n) := ⟨_, rfl⟩
  obtain ⟨bm, hbm⟩ : ∃ x, x = vbytes (vOf m) := ⟨_, rfl⟩
  rw [← hbn, ← hbm] at hsame
  rw [← hbn] at CB1
  rw [← hbm] at CB2
  have eS : (bn == bm) = same := by rw [hsame, Bool.eq_iff_iff]; simp
  obtain ⟨p, hp⟩ : ∃ p, p = decide (a = b) := ⟨_, rfl⟩
  rw [← hp] at CI1
  have eP : ((a.toNat : Int) == (b.toNat : Int)) = p := by
    rw [hp, Bool.eq_iff_iff]
    simp only [beq_iff_eq, decide_eq_true_iff]
    constructor
    · intro h; exact UInt8.toNat_inj.1 (by omega)
    · intro h; rw [h]
  obtain ⟨za, hza⟩ : ∃ z : Int, z = (a.toNat : Int) := ⟨_, rfl⟩
  obtain ⟨zb, hzb⟩ : ∃ z : Int, z = (b.toNat : Int) := ⟨_, rfl⟩
  rw [← hza, ← hzb] at eP ⊢
  rw [← hza] at BKA
  rw [← hzb] at BKB
  unfold vval at *
  obtain ⟨KA, hKA⟩ : ∃ X, X = (key1 a).map cellOf := ⟨_, rfl⟩
  rw [← hKA] at CS1 CS2 CI2 BKA
  obtain ⟨KB, hKB⟩ : ∃ X, X = (key1 b).map cellOf := ⟨_, rfl⟩
  rw [← hKB] at CI1 BKB
  obtain ⟨T1, hT1⟩ : ∃ X, X = o1.map cellOf := ⟨_, rfl⟩
  rw [← hT1] at LT1 IT1 eTT
  obtain ⟨T2, hT2⟩ : ∃ X, X = o2.map cellOf := ⟨_, rfl⟩
  rw [← hT2] at LT2 IT2 eTT
  obtain ⟨v1, hv1⟩ : ∃ v, v = ({ vOf n with tag := o1 } : V) := ⟨_, rfl⟩
  rw [← hv1] at CS1 CI1 CB1 I1 O1 Z1 LT1
  obtain ⟨v2, hv2⟩ : ∃ v, v = ({ vOf m with tag := o2 } : V) := ⟨_, rfl⟩
  rw [← hv2] at CS2 CI2 CB2 I2 O2 Z2 LT2
  clear hv1 hv2
  obtain ⟨vn, hvn⟩ : ∃ v, v = vOf n := ⟨_, rfl⟩
  rw [← hvn] at CS1 BN
  obtain ⟨vm, hvm⟩ : ∃ v, v = vOf m := ⟨_, rfl⟩
  rw [← hvm] at CS2 BM
  obtain ⟨N0, hN0⟩ : ∃ X, X = vn.cells := ⟨_, rfl⟩
  rw [← hN0] at CS1 BN
  obtain ⟨M0, hM0⟩ : ∃ X, X = vm.cells := ⟨_, rfl⟩
  rw [← hM0] at CS2 BM
  obtain ⟨N1, hN1⟩ : ∃ X, X = v1.cells := ⟨_, rfl⟩
  rw [← hN1] at CS1 CI1 CB1 I1 O1 Z1 LT1
  obtain ⟨M1, hM1⟩ : ∃ X, X = v2.cells := ⟨_, rfl⟩
  rw [← hM1] at CS2 CI2 CB2 I2 O2 Z2 LT2
  have W := Lib.hid (Below.refl w.heap.size w)
  clear hg hB hn hm ho1 hB1 g1 ho2 hB2 hs1 hs2 hs3 hst1 hst2 okn okm ok1 ok2 hsame heqT hbn hbm hp hza hzb hKA hKB hT1 hT2 hvn hvm hN0 hM0 hN1 hM1 l1 l2
  go_enter Tryd.func6, Tryd.ntmps6
  go_upto_region 5 with (first
    | (go_at_call 7; (with_reducible refine (CG.out _ (HG.out.below W.out hsz)).mono ?_); rintro e w2 ⟨rfl, hX⟩; replace W := Lib.hid (W.out.trans (hX.mono W.out.size)); clear hX)
    | (go_at_call 18; refine (tnew_any 6 _ (by omega) (by omega)).mono ?_; rintro e w3 ⟨tp, rfl, ht, hT, hX⟩; have TP := Lib.hid hT; have HT2 : Hid (w.heap.size ≤ tp) := Nat.le_trans W.out.size ht; clear hT ht; replace W := Lib.hid (W.out.trans (hX.mono W.out.size)); clear hX)
    | (go_at_call 17; refine (HB.out.newI TP.out).mono ?_; rintro e w4 ⟨g, M, rfl, hM, hP, hX⟩; have PB := Lib.hid hP; have MB : Hid (∀ b, M b → w.heap.size ≤ b) := (fun b hb => by have := HT2.out; have := W.out.size; rcases hM b hb with h | h <;> omega); have MG : Hid (∀ b, M b → 2 ≤ b) := (fun b hb => by have := MB.out b hb; omega); clear hM hP; replace W := Lib.hid (W.out.trans (hX.mono W.out.size)); clear hX TP HT2))
  go_upto_region 6 with (first
    | (with_reducible refine build_law rfl 27 #[(0, .tmp 20)] rfl KA (by simp only [List.map_toArray, List.map_cons, List.map_nil]; exact built_of (BKA.out) rfl) ?_)
    | (refine build_law rfl 30 #[(0, .const (.int .i64 1)), (1, .tmp 22), (2, .const (.int .i64 1))] rfl N0 (by simp only [List.map_toArray, List.map_cons, List.map_nil]; exact built_of (BN.out) rfl) ?_)
    | (go_at_call 12; (with_reducible refine (CS1.out _ _ _ (HG.out.below W.out hsz) MG.out PB.out).mono ?_); rintro e w5 ⟨M', rfl, hP, hF, hM⟩; have hs4 := W.out.size; have W5 := Lib.hid (hF.below W.out MB.out hs4); have P5 := Lib.hid hP; have M5 : Hid (∀ b, M' b → w.heap.size ≤ b) := (fun b hb => by rcases hM b hb with h | h; exact MB.out b h; omega); have ML : Hid (∀ b, M' b → b < w5.heap.size) := (fun b hb => HB.out.lt P5.out hb); clear W PB MB MG hP hF hM CS1 hs4; have W := W5; have PB := P5; have MB := M5; have MG : Hid (∀ b, M' b → 2 ≤ b) := (fun b hb => by have := MB.out b hb; omega); have W5s : Hid (w.heap.size ≤ w5.heap.size) := W5.out.size; clear W5 P5 M5)
    | ((with_reducible refine storeGen_law rfl 30 (.tmp 11) (.tmp 24) rfl w5.heap.size rfl N1 rfl 30 zero.cells I1.out Z1.out O1.out w5.heap.size w5 ?_ ?_ (Nat.le_refl _) ?_); (exact ZB.out w5); (exact alloc_below w5 _); intro w6 BA hX'; have hX := hX'.out; clear hX'; replace PB := Lib.hid (HB.out.below PB.out hX); replace W := Lib.hid (W.out.trans (hX.mono W.out.size)); clear hX))
  obtain ⟨q, hq⟩ : ∃ q, q = w5.heap.size := ⟨_, rfl⟩
  rw [← hq] at BA ML W5s ⊢
  have hq0 := W5s.out
  have NQ : ¬ M' q := fun h => by have := ML.out _ h; omega
  clear hq W5s ML
  try simp only [Act.put]
  go_upto_region 7 with (first
    | (with_reducible refine build_law rfl 27 #[(0, .tmp 26)] rfl KA (by simp only [List.map_toArray, List.map_cons, List.map_nil]; exact built_of (BKA.out) rfl) ?_)
    | (refine build_law rfl 30 #[(0, .const (.int .i64 1)), (1, .tmp 28), (2, .const (.int .i64 1))] rfl M0 (by simp only [List.map_toArray, List.map_cons, List.map_nil]; exact built_of (BM.out) rfl) ?_)
    | (go_at_call 12; (with_reducible refine (CS2.out _ _ _ (HG.out.below W.out hsz) MG.out PB.out).mono ?_); rintro e w7 ⟨M2, rfl, hP, hF, hM⟩; have hs4 := W.out.size; have W5 := Lib.hid (hF.below W.out MB.out hs4); have P5 := Lib.hid hP; have M5 : Hid (∀ b, M2 b → w.heap.size ≤ b) := (fun b hb => by rcases hM b hb with h | h; exact MB.out b h; omega); have ML : Hid (∀ b, M2 b → b < w7.heap.size) := (fun b hb => HB.out.lt P5.out hb); replace BA := Lib.hid (hF.blk BA.out NQ); clear W PB MB MG hP hF hM CS2 hs4; have W := W5; have PB := P5; have MB := M5; have MG : Hid (∀ b, M2 b → 2 ≤ b) := (fun b hb => by have := MB.out b hb; omega); have Q7 : Hid (q < w7.heap.size) := BA.out.lt; have W5s : Hid (w.heap.size ≤ w7.heap.size) := W5.out.size; clear W5 P5 M5)
    | ((with_reducible refine storeGen_law rfl 30 (.tmp 12) (.tmp 30) rfl w7.heap.size rfl M1 rfl 30 zero.cells I2.out Z2.out O2.out w7.heap.size w7 ?_ ?_ (Nat.le_refl _) ?_); (exact ZB.out w7); (exact alloc_below w7 _); intro w8 BB hX'; have hX := hX'.out; clear hX'; replace PB := Lib.hid (HB.out.below PB.out hX); replace BA := Lib.hid (BA.out.below hX BA.out.lt); replace W := Lib.hid (W.out.trans (hX.mono W.out.size)); clear hX))
  obtain ⟨q2, hq2⟩ : ∃ q, q = w7.heap.size := ⟨_, rfl⟩
  rw [← hq2] at BB Q7 W5s ⊢
  have hq20 := Q7.out
  clear hq2 W5s Q7 ML NQ
  try simp only [Act.put]
  replace BA := Lib.hid BA.out.drew
  replace BB := Lib.hid BB.out.drew
  replace W := Lib.hid W.out.drew
  replace PB : Hid (P (World.drew w8) g st2 M2) := HB.out.keep PB.out (Nat.le_refl _) (fun _ _ => rfl)
  refine wp_region_any (by kernel_rfl) ?_
  change wpAny _ _ _ _ _ _ _ (World.drew _)
  generalize w8.drew = w9 at *
  refine phaseL (fun i => if i = 1 then [0] else if i = 2 then [1] else if i = 4 then [3, 1] else if i = 5 then [4] else []) (fun d a w' => ∃ x31 x32 x33 x34 x35 x36 : Value, a = { tmps := #[.int .u8 za, .int .u8 zb, .int .i64 n, .int .i64 m, undef, undef, undef, undef, .bool false, .bool true, .pointer (some ⟨g, 0, none⟩), .pointer (some ⟨q, 0, none⟩), .pointer (some ⟨q2, 0, none⟩), undef, .bool true, .bool true, .bool false, .pointer (some ⟨tp, 0, none⟩), .pointer (some ⟨g, 0, none⟩), .pointer (some ⟨g, 0, none⟩), .int .u8 za, .agg KA.toArray, .int .i64 n, .agg N0.toArray, .agg N1.toArray, .pointer (some ⟨g, 0, none⟩), .int .u8 za, .agg KA.toArray, .int .i64 m, .agg M0.toArray, .agg M1.toArray, x31, x32, x33, x34, x35, x36, undef, undef, undef, undef, undef, undef, undef, undef, undef, undef, undef, undef, undef, undef, undef, undef, undef, undef, undef, undef, undef, undef, undef, undef, undef, undef, undef, undef], defers := [] } ∧ Hid (Below w9.heap.size w9 w') ∧ (d 0 = true → x31 = .agg N1.toArray) ∧ (d 1 = true → Hid (Nw w' w9.heap.size x32 bn)) ∧ (d 2 = true → x33 = .string ⟨bn.toArray⟩) ∧ (d 3 = true → x34 = .agg M1.toArray) ∧ (d 4 = true → Hid (Nw w' w9.heap.size x35 bm)) ∧ (d 5 = true → x36 = .string ⟨bm.toArray⟩)) [0, 1, 2, 3, 4, 5] ?step1 2 6 [0, 1, 2, 3, 4, 5] _ _ _ rfl (by decide) (fun _ h => h) (Fits.of (by kernel_rfl)) ?init1 ?fin1
  case init1 => refine ⟨_, _, _, _, _, _, rfl, Below.refl _ _, ?_, ?_, ?_, ?_, ?_, ?_⟩ <;> (intro h; exact absurd h (by decide))
  case step1 =>
    intro i hi d a v1 hI hdi hdeps
    obtain ⟨x31, x32, x33, x34, x35, x36, rfl, BW, h0, h1, h2, h3, h4, h5⟩ := hI
    have hsw := BW.out.size
    simp only [List.mem_cons, List.not_mem_nil, or_false] at hi
    rcases hi with rfl | rfl | rfl | rfl | rfl | rfl
    · refine wpOp_step (o := ?os2) ?hos2 (fun K hK => ?_)
      case hos2 => simp only [zge]; rfl
      refine step_loadW rfl 30 (.tmp 11) rfl q 0 rfl N1 _ Tryd.underlying30 rfl I1.out (BA.out.below BW.out BA.out.lt).cells (hK _ _ ?_)
      clear hK K
      try simp only [zpt]
      exact ⟨_, _, _, _, _, _, rfl, BW, fun _ => rfl, fun a => h1 (by simpa using a), fun a => by first | exact h2 (by simpa using a) | rfl, fun a => by first | exact h3 (by simpa using a) | rfl, fun a => h4 (by simpa using a), fun a => by first | exact h5 (by simpa using a) | rfl⟩
    · obtain rfl := h0 (hdeps 0 (by simp))
      refine wpOp_step (o := ?os3) ?hos3 (fun K hK => ?_)
      case hos3 => simp only [zge]; rfl
      go_simp
      refine (CB1.out v1).mono ?_
      rintro e u1 ⟨x, rfl, hO, hX⟩
      refine hK _ _ ?_
      clear hK K
      try simp only [zpt]
      exact ⟨_, _, _, _, _, _, rfl, BW.out.trans (hX.mono hsw), fun a => by first | exact h0 (by simpa using a) | rfl, fun _ => hO.nw hsw, fun a => by first | exact h2 (by simpa using a) | rfl, fun a => by first | exact h3 (by simpa using a) | rfl, fun a => (h4 (by simpa using a)).out.below hX, fun a => by first | exact h5 (by simpa using a) | rfl⟩
    · obtain ⟨A0, c0, rfl, hR, _⟩ := (h1 (hdeps 1 (by simp))).out
      have hcv := conv_bytes hR
      refine wpOp_step (o := ?os4) ?hos4 (fun K hK => ?_)
      case hos4 => simp only [zge]; rfl
      go_simp
      refine hK _ _ ?_
      clear hK K
      try simp only [zpt]
      exact ⟨_, _, _, _, _, _, rfl, BW, fun a => by first | exact h0 (by simpa using a) | rfl, fun a => h1 (by simpa using a), fun _ => rfl, fun a => by first | exact h3 (by simpa using a) | rfl, fun a => h4 (by simpa using a), fun a => by first | exact h5 (by simpa using a) | rfl⟩
    · refine wpOp_step (o := ?os5) ?hos5 (fun K hK => ?_)
      case hos5 => simp only [zge]; rfl
      refine step_loadW rfl 30 (.tmp 12) rfl q2 0 rfl M1 _ Tryd.underlying30 rfl I2.out (BB.out.below BW.out BB.out.lt).cells (hK _ _ ?_)
      clear hK K
      try simp only [zpt]
      exact ⟨_, _, _, _, _, _, rfl, BW, fun a => by first | exact h0 (by simpa using a) | rfl, fun a => h1 (by simpa using a), fun a => by first | exact h2 (by simpa using a) | rfl, fun _ => rfl, fun a => h4 (by simpa using a), fun a => by first | exact h5 (by simpa using a) | rfl⟩
    · obtain rfl := h3 (hdeps 3 (by simp))
      refine wpOp_step (o := ?os6) ?hos6 (fun K hK => ?_)
      case hos6 => simp only [zge]; rfl
      go_simp
      refine (CB2.out v1).mono ?_
      rintro e u1 ⟨x, rfl, hO, hX⟩
      refine hK _ _ ?_
      clear hK K
      try simp only [zpt]
      exact ⟨_, _, _, _, _, _, rfl, BW.out.trans (hX.mono hsw), fun a => by first | exact h0 (by simpa using a) | rfl, fun a => (h1 (by simpa using a)).out.below hX, fun a => by first | exact h2 (by simpa using a) | rfl, fun a => by first | exact h3 (by simpa using a) | rfl, fun _ => hO.nw hsw, fun a => by first | exact h5 (by simpa using a) | rfl⟩
    · obtain ⟨A0, c0, rfl, hR, _⟩ := (h4 (hdeps 4 (by simp))).out
      have hcv := conv_bytes hR
      refine wpOp_step (o := ?os7) ?hos7 (fun K hK => ?_)
      case hos7 => simp only [zge]; rfl
      go_simp
      refine hK _ _ ?_
      clear hK K
      try simp only [zpt]
      exact ⟨_, _, _, _, _, _, rfl, BW, fun a => by first | exact h0 (by simpa using a) | rfl, fun a => h1 (by simpa using a), fun a => by first | exact h2 (by simpa using a) | rfl, fun a => by first | exact h3 (by simpa using a) | rfl, fun a => h4 (by simpa using a), fun _ => rfl⟩
  case fin1 =>
    intro a v1 hI
    obtain ⟨x31, x32, x33, x34, x35, x36, rfl, BW, h0, h1, h2, h3, h4, h5⟩ := hI
    obtain rfl := h0 (by decide)
    obtain rfl := h2 (by decide)
    obtain rfl := h3 (by decide)
    obtain rfl := h5 (by decide)
    have hX := BW.out
    replace PB := Lib.hid (HB.out.below PB.out hX)
    replace BA := Lib.hid (BA.out.below hX BA.out.lt)
    replace BB := Lib.hid (BB.out.below hX BB.out.lt)
    replace W := Lib.hid (W.out.trans (hX.mono W.out.size))
    clear hX BW h0 h1 h2 h3 h4 h5 CB1 CB2
    try dsimp only
    cases same with
    | false =>
      refine wpAny_take (i := 6) (oi := ?oi8) (v := .bool false) ?hi8 (by kernel_rfl) (by kernel_rfl) (by kernel_rfl) ?hQ8 ?hy8 ?rest8
      case hi8 => simp only [zge]; rfl
      case hQ8 => exact fun _ _ _ h => h
      case hy8 => exact Or.inl ⟨by rfl, by intro w; go_simp⟩
      try simp only [zpt]
      refine wpAny_take (i := 7) (oi := ?oi9) (v := .bool false) ?hi9 (by kernel_rfl) (by kernel_rfl) (by kernel_rfl) ?hQ9 ?hy9 ?rest9
      case hi9 => simp only [zge]; rfl
      case hQ9 => exact fun _ _ _ h => h
      case hy9 => exact Or.inl ⟨by rfl, by intro w; go_simp⟩
      try simp only [zpt]
      refine wpAny_done (by kernel_rfl) ?_ _
      go_wp2_with (first
        | (with_reducible refine build_law rfl 27 #[(0, .tmp 39)] rfl KB (by simp only [List.map_toArray, List.map_cons, List.map_nil]; exact built_of (BKB.out) rfl) ?_)
        | (with_reducible refine build_when (by kernel_rfl) 27 #[(0, .tmp 60)] rfl KA (by simp only [List.map_toArray, List.map_cons, List.map_nil]; exact built_of (BKA.out) rfl) ?_)
        | (with_reducible refine load_law rfl 30 (.tmp 11) rfl q 0 rfl N1 _ Tryd.underlying30 rfl I1.out BA.out.cells ?_)
        | (with_reducible refine load_when (by kernel_rfl) 30 (.tmp 12) rfl q2 0 rfl M1 _ Tryd.underlying30 rfl I2.out BB.out.cells ?_)
        | (with_reducible refine load_when (by kernel_rfl) 27 (.tmp 51) rfl q 72 rfl T1 _ Tryd.underlying27 rfl IT1.out (BA.out.at_ LT1.out) ?_)
        | (with_reducible refine load_when (by kernel_rfl) 27 (.tmp 53) rfl q2 72 rfl T2 _ Tryd.underlying27 rfl IT2.out (BB.out.at_ LT2.out) ?_)
        | (go_at_call 15; (with_reducible refine (CI1.out _ _ _ (HG.out.below W.out hsz) PB.out).mono ?_); rintro e w11 ⟨rfl, hX⟩; replace PB := Lib.hid (HB.out.below PB.out hX); replace BA := Lib.hid (BA.out.below hX BA.out.lt); replace BB := Lib.hid (BB.out.below hX BB.out.lt); replace W := Lib.hid (W.out.trans (hX.mono W.out.size)); clear hX)
        | (go_at_call 15; (with_reducible refine (CI2.out _ _ _ (HG.out.below W.out hsz) PB.out).mono ?_); rintro e w12 ⟨rfl, hX⟩; replace PB := Lib.hid (HB.out.below PB.out hX); replace BA := Lib.hid (BA.out.below hX BA.out.lt); replace BB := Lib.hid (BB.out.below hX BB.out.lt); replace W := Lib.hid (W.out.trans (hX.mono W.out.size)); clear hX))
      go_ret
      exact ⟨rfl, W.out⟩
    | true =>
      obtain rfl : eqT = true := eTS.out rfl
      refine wpAny_take (i := 6) (oi := ?oi10) (v := .bool true) ?hi10 (by kernel_rfl) (by kernel_rfl) (by kernel_rfl) ?hQ10 ?hy10 ?rest10
      case hi10 => simp only [zge]; rfl
      case hQ10 => exact fun _ _ _ h => h
      case hy10 => exact Or.inl ⟨by rfl, by intro w; go_simp⟩
      try simp only [zpt]
      refine wpAny_take (i := 7) (oi := ?oi11) (v := .bool true) ?hi11 (by kernel_rfl) (by kernel_rfl) (by kernel_rfl) ?hQ11 ?hy11 ?rest11
      case hi11 => simp only [zge]; rfl
      case hQ11 => exact fun _ _ _ h => h
      case hy11 => exact Or.inl ⟨by rfl, by intro w; go_simp⟩
      try simp only [zpt]
      refine wpAny_done (by kernel_rfl) ?_ _
      go_wp2_with (first
        | (with_reducible refine build_law rfl 27 #[(0, .tmp 39)] rfl KB (by simp only [List.map_toArray, List.map_cons, List.map_nil]; exact built_of (BKB.out) rfl) ?_)
        | (with_reducible refine build_when (by kernel_rfl) 27 #[(0, .tmp 60)] rfl KA (by simp only [List.map_toArray, List.map_cons, List.map_nil]; exact built_of (BKA.out) rfl) ?_)
        | (with_reducible refine load_law rfl 30 (.tmp 11) rfl q 0 rfl N1 _ Tryd.underlying30 rfl I1.out BA.out.cells ?_)
        | (with_reducible refine load_when (by kernel_rfl) 30 (.tmp 12) rfl q2 0 rfl M1 _ Tryd.underlying30 rfl I2.out BB.out.cells ?_)
        | (with_reducible refine load_when (by kernel_rfl) 27 (.tmp 51) rfl q 72 rfl T1 _ Tryd.underlying27 rfl IT1.out (BA.out.at_ LT1.out) ?_)
        | (with_reducible refine load_when (by kernel_rfl) 27 (.tmp 53) rfl q2 72 rfl T2 _ Tryd.underlying27 rfl IT2.out (BB.out.at_ LT2.out) ?_)
        | (go_at_call 15; (with_reducible refine (CI1.out _ _ _ (HG.out.below W.out hsz) PB.out).mono ?_); rintro e w11 ⟨rfl, hX⟩; replace PB := Lib.hid (HB.out.below PB.out hX); replace BA := Lib.hid (BA.out.below hX BA.out.lt); replace BB := Lib.hid (BB.out.below hX BB.out.lt); replace W := Lib.hid (W.out.trans (hX.mono W.out.size)); clear hX)
        | (go_at_call 15; (with_reducible refine (CI2.out _ _ _ (HG.out.below W.out hsz) PB.out).mono ?_); rintro e w12 ⟨rfl, hX⟩; replace PB := Lib.hid (HB.out.below PB.out hX); replace BA := Lib.hid (BA.out.below hX BA.out.lt); replace BB := Lib.hid (BB.out.below hX BB.out.lt); replace W := Lib.hid (W.out.trans (hX.mono W.out.size)); clear hX))
      go_ret
      exact ⟨rfl, W.out⟩
end Go.Proofs.YtajgjeialbgijaaDoor.versKeys
