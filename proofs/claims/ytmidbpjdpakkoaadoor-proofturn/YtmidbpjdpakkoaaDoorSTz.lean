import Derived.Test.YtmidbpjdpakkoaaDoorSTh
import Derived.Test.YtmidbpjdpakkoaaDoorSTy
namespace Go.Proofs.YtmidbpjdpakkoaaDoor
set_option linter.unusedVariables false
set_option linter.unusedSimpArgs false
set_option maxRecDepth 100000
open Go.RowKit
def proofL (v : Value) (has : Bool) (lab sum : List Value) : List Value := v :: .bool has :: (lab ++ sum)
theorem proofL_length {v : Value} {has : Bool} {lab sum : List Value} (h1 : lab.length = 32) (h2 : sum.length = 32) : (proofL v has lab sum).length = 66 := by simp [proofL, h1, h2]
theorem proofL_info {v : Value} {has : Bool} {lab sum : List Value} (h1 : lab.length = 32) (h2 : sum.length = 32) : (Tryd.prog.info? 38).map (·.size) = some (proofL v has lab sum).length := by rw [proofL_length h1 h2]; kernel_rfl
theorem proofL_one {v : Value} {has : Bool} {lab sum : List Value} (hv : v.oneCell' = true) (h1 : ∀ u ∈ lab, u.oneCell' = true) (h2 : ∀ u ∈ sum, u.oneCell' = true) : ∀ u ∈ proofL v has lab sum, u.oneCell' = true := fun u hu => by
  simp only [proofL, List.mem_cons, List.mem_append] at hu
  rcases hu with rfl | rfl | hu | hu
  · exact hv
  · rfl
  · exact h1 u hu
  · exact h2 u hu
theorem proofL_lab {v : Value} {has : Bool} {l0 lab sum : List Value} (h0 : lab.length = 32) (h1 : l0.length = 32) : (proofL v has l0 sum).take 2 ++ lab ++ (proofL v has l0 sum).drop (2 + lab.length) = proofL v has lab sum := by
  unfold proofL
  rw [h0, show 2 + 32 = 32 + 1 + 1 from rfl, List.drop_succ_cons, List.drop_succ_cons, List.drop_append_of_le_length (by omega), List.drop_of_length_le (by omega)]
  simp
theorem proofL_sum {v : Value} {has : Bool} {lab s0 sum : List Value} (h0 : lab.length = 32) (h1 : s0.length = 32) (h2 : sum.length = 32) : (proofL v has lab s0).take 34 ++ sum ++ (proofL v has lab s0).drop (34 + sum.length) = proofL v has lab sum := by
  unfold proofL
  rw [h2, show 34 + 32 = 64 + 1 + 1 from rfl, List.drop_succ_cons, List.drop_succ_cons, List.drop_of_length_le (by simp; omega), show 34 = 32 + 1 + 1 from rfl, List.take_succ_cons, List.take_succ_cons, List.take_append_of_le_length (by omega), List.take_of_length_le (by omega)]
  simp
theorem proof_built : Tryd.prog.built 38 [] = some (proofL (.slice none 0 0) false (List.replicate 32 (Value.int .u8 0)) (List.replicate 32 (Value.int .u8 0))).toArray := by kernel_rfl
structure PrfAt (w : World) (B : Nat) (x : Value) (p : Tm.Prf) : Prop where
  at_ : ∃ v, x = .agg (proofL v p.has (p.lab.map cellOf) (p.sum.map cellOf)).toArray ∧ Ow2 w B 30 32 v (hashes p.sides)
  lab : p.lab.length = 32
  sum : p.sum.length = 32
set_option maxRecDepth 100000 in
set_option maxHeartbeats 1000000 in
theorem tprove_none (w : World) (k : List UInt8) : Calls Tryd.prog 21 #[.pointer none, hv k] w fun e w' => e = .returned (.agg (proofL (.slice none 0 0) false (List.replicate 32 (Value.int .u8 0)) (List.replicate 32 (Value.int .u8 0))).toArray) ∧ Below w.heap.size w w' := by
  unfold hv
  obtain ⟨L, hL⟩ : ∃ L, L = k.map cellOf := ⟨_, rfl⟩
  rw [← hL]
  obtain ⟨w1, hw1⟩ : ∃ w1, w1 = (w.alloc (.cells L.toArray 30)).alloc (.cells (proofL (.slice none 0 0) false (List.replicate 32 (Value.int .u8 0)) (List.replicate 32 (Value.int .u8 0))).toArray 38) := ⟨_, rfl⟩
  have X1 : Hid (Below w.heap.size w w1) := by unfold Hid; rw [hw1]; exact ((Below.refl _ _).alloc (Nat.le_refl _) _).alloc (by simp) _
  have B1 : Hid (Blk w1 (w.heap.size + 1) 38 (proofL (.slice none 0 0) false (List.replicate 32 (Value.int .u8 0)) (List.replicate 32 (Value.int .u8 0)))) := by unfold Hid; rw [hw1]; exact Blk.at_new _ _ 38 _ _ rfl (by simp)
  have HI : Hid ((Tryd.prog.info? 38).map (·.size) = some (proofL (.slice none 0 0) false (List.replicate 32 (Value.int .u8 0)) (List.replicate 32 (Value.int .u8 0))).length) := proofL_info rfl rfl
  have HO : Hid (∀ u ∈ (proofL (.slice none 0 0) false (List.replicate 32 (Value.int .u8 0)) (List.replicate 32 (Value.int .u8 0))), u.oneCell' = true) := proofL_one rfl zero_one zero_one
  have HB := Lib.hid proof_built
  obtain ⟨Z, hZ⟩ : ∃ Z, Z = (proofL (.slice none 0 0) false (List.replicate 32 (Value.int .u8 0)) (List.replicate 32 (Value.int .u8 0))) := ⟨_, rfl⟩
  rw [← hZ] at HI HO HB B1 ⊢
  have hle : w.heap.size ≤ w.heap.size + 1 := by omega
  clear hL
  go_enter Tryd.func21, Tryd.ntmps21
  go_upto_region 1 with (fail)
  change Code.wp _ _ _ _ ((w.alloc (.cells L.toArray 30)).alloc (.cells (proofL (.slice none 0 0) false (List.replicate 32 (Value.int .u8 0)) (List.replicate 32 (Value.int .u8 0))).toArray 38))
  rw [← hw1]
  clear hZ hw1
  go_wp2_with (first
    | (with_reducible refine build_law rfl 38 #[] rfl Z (by simp only [List.map_toArray, List.map_nil]; exact HB.out) ?_)
    | ((with_reducible refine storeGen_law rfl 38 (.tmp 4) (.tmp 11) rfl (w.heap.size + 1) rfl Z rfl 38 Z HI.out rfl HO.out w.heap.size w B1.out X1.out hle ?_); intro w6 B6 W6))
  exact bodyPost_ret (results_cell_row rfl _ _ (w.heap.size + 1) 38 Z.toArray (0, 0) _ rfl B6.out Tryd.underlying38 rfl (by rw [HI.out]; simp)) rfl ⟨rfl, W6.out⟩
set_option maxRecDepth 100000 in
set_option maxHeartbeats 2000000 in
theorem tprove_any {w : World} {g : Nat} {l : List Tm.P} (h : TreeAt w g l) {k : List UInt8} (hk : k.length = 32) : Calls Tryd.prog 21 #[.pointer (some ⟨g, 0, none⟩), hv k] w fun e w' => ∃ x, e = .returned x ∧ PrfAt w' w.heap.size x (Tm.prove l k) ∧ Below w.heap.size w w' := by
  obtain ⟨top, h1, h2⟩ := h.blk
  have HF := Lib.hid h.fit
  have HI := Lib.hid (hash_info hk)
  have CB : Hid (∀ (dp : Nat) (W : World), dp < 256 → Calls Tryd.prog 41 #[hv k, .int .i64 (dp : Int)] W fun e w' => e = .returned (.int .i64 (bitI k dp)) ∧ Below W.heap.size W w') := fun dp W hd => bit_any hk hd W
  obtain ⟨res, hres⟩ : ∃ res, res = Tm.prove l k := ⟨_, rfl⟩
  rw [← hres]
  have HS : Hid (res.sides = Tm.sides 0 k l) := by unfold Hid; rw [hres, Tm.prove, Tm.sides_of]
  have HE : Hid (res = Tm.Prf.of (Tm.sides 0 k l) (Tm.ends 0 k l)) := hres
  unfold hv at CB ⊢
  obtain ⟨L, hL⟩ : ∃ L, L = k.map cellOf := ⟨_, rfl⟩
  rw [← hL] at CB HI ⊢
  obtain ⟨w1, hw1⟩ : ∃ w1, w1 = ((w.alloc (.cells L.toArray 30)).alloc (.cells (proofL (.slice none 0 0) false (List.replicate 32 (Value.int .u8 0)) (List.replicate 32 (Value.int .u8 0))).toArray 38)).alloc (.cells (proofL (.slice none 0 0) false (List.replicate 32 (Value.int .u8 0)) (List.replicate 32 (Value.int .u8 0))).toArray 38) := ⟨_, rfl⟩
  have X1 : Hid (Below w.heap.size w w1) := by unfold Hid; rw [hw1]; exact (((Below.refl _ _).alloc (Nat.le_refl _) _).alloc (by simp) _).alloc (by simp; omega) _
  have BL : Hid (Blk w1 w.heap.size 30 L) := by unfold Hid; rw [hw1]; exact ((Blk.new w 30 _).alloc _).alloc _
  have BR : Hid (Blk w1 (w.heap.size + 1) 38 (proofL (.slice none 0 0) false (List.replicate 32 (Value.int .u8 0)) (List.replicate 32 (Value.int .u8 0)))) := by unfold Hid; rw [hw1]; exact (Blk.at_new _ _ 38 _ _ rfl (by simp)).alloc _
  have BP : Hid (Blk w1 (w.heap.size + 1 + 1) 38 (proofL (.slice none 0 0) false (List.replicate 32 (Value.int .u8 0)) (List.replicate 32 (Value.int .u8 0)))) := by unfold Hid; rw [hw1]; exact Blk.at_new _ _ 38 _ _ rfl (by simp)
  have c0 : w1.cell? ⟨g, 0, none⟩ = some (ptr top) := (h1.below X1.out h1.lt).cell 0
  have T1 := Lib.hid h2
  obtain ⟨Z, hZ⟩ : ∃ Z, Z = List.replicate 32 (Value.int .u8 0) := ⟨_, rfl⟩
  have HZ := Lib.hid hZ
  have HZL : Hid (Z.length = 32) := by unfold Hid; rw [hZ]; rfl
  have HZO : Hid (∀ u ∈ Z, u.oneCell' = true) := by unfold Hid; rw [hZ]; exact zero_one
  rw [← hZ] at BR BP
  clear hL h h1 h2 hres
  go_enter Tryd.func21, Tryd.ntmps21
  go_upto_region 4 with (fail)
  change Code.wp _ _ _ _ (((w.alloc (.cells L.toArray 30)).alloc (.cells (proofL (.slice none 0 0) false (List.replicate 32 (Value.int .u8 0)) (List.replicate 32 (Value.int .u8 0))).toArray 38)).alloc (.cells (proofL (.slice none 0 0) false (List.replicate 32 (Value.int .u8 0)) (List.replicate 32 (Value.int .u8 0))).toArray 38))
  rw [← hw1]
  clear hZ hw1
  go_wp2_with fail
  go_loopw [6, 7] (fun nv dv wr => ∃ (x : Option Nat) (dp : Nat) (lx : List Tm.P) (sd : List (List UInt8)) (v : Value), nv = ptr x ∧ dv = .int .i64 (dp : Int) ∧ Hid (Tr w x dp lx) ∧ Hid (Tm.Fit dp lx) ∧ Hid (dp ≤ 256) ∧ Hid (Tm.sides 0 k l = sd ++ Tm.sides dp k lx) ∧ Hid (Tm.ends 0 k l = Tm.ends dp k lx) ∧ Hid (sd.length = dp) ∧ Hid (Blk wr w.heap.size 30 L) ∧ Hid (Blk wr (w.heap.size + 1) 38 (proofL (.slice none 0 0) false Z Z)) ∧ Hid (Blk wr (w.heap.size + 1 + 1) 38 (proofL v false Z Z)) ∧ Hid (Ow2 wr (w.heap.size + 3) 30 32 v (hashes sd)) ∧ Hid (Below w.heap.size w wr)) (fun _ d _ => 256 - (intOf d).toNat)
  case atStart => exact ⟨top, 0, l, [], _, rfl, rfl, T1, HF, Nat.zero_le _, rfl, rfl, rfl, BL, BR, BP, Ow2.empty _ _ _ _, X1⟩
  case round =>
    clear c0 T1 HF BL BR BP X1 w1
    obtain ⟨x, dp, lx, sd, v, rfl, rfl, TX, HF, HD, HSD, HED, HSL, BL, BR, BP, OV, W1⟩ := hrel
    by_cases h2 : 2 ≤ lx.length
    · have CM := Lib.hid (many_of (TX.out.low W1.out))
      rw [decide_eq_true h2] at CM
      have hd : dp < 256 := HF.out.deep h2
      obtain ⟨g0, a, b, rfl, hN, hTa, hTb⟩ := tr_more TX.out h2
      have BN := Lib.hid (hN.below W1.out hN.lt)
      obtain ⟨kk, ko, y, z, hkk, hko, hk2, hky, hty, hkz, htz⟩ : ∃ (kk ko : Nat) (y z : Option Nat), bitI k dp = (kk : Int) ∧ (1 : Int) - (kk : Int) = (ko : Int) ∧ (kk < 2 ∧ ko < 2) ∧ (nodeL (Tm.root dp lx) none a b)[33 + kk]? = some (ptr y) ∧ Tr w y (dp + 1) (Tm.half (Tm.bit k dp) dp lx) ∧ (nodeL (Tm.root dp lx) none a b)[33 + ko]? = some (ptr z) ∧ Tr w z (dp + 1) (Tm.half (!Tm.bit k dp) dp lx) := by
        unfold bitI
        cases Tm.bit k dp
        · exact ⟨0, 1, a, b, rfl, rfl, by omega, (nodeL_ptrs (Tm.root_length _ _)).2.1, hTa, (nodeL_ptrs (Tm.root_length _ _)).2.2, hTb⟩
        · exact ⟨1, 0, b, a, rfl, rfl, by omega, (nodeL_ptrs (Tm.root_length _ _)).2.2, hTb, (nodeL_ptrs (Tm.root_length _ _)).2.1, hTa⟩
      have CD := Lib.hid fun W => CB.out dp W hd
      rw [hkk] at CD
      have HKY := Lib.hid hky
      have TY := Lib.hid hty
      have HKZ := Lib.hid hkz
      have TZ := Lib.hid htz
      have HKO := Lib.hid hko
      have HF1 := Lib.hid (HF.out.half (Tm.bit k dp))
      have HS2 := Lib.hid (Tm.sides_more (k := k) h2 (show dp ≤ 256 by omega))
      have HE2 := Lib.hid (Tm.ends_more (k := k) h2 (show dp ≤ 256 by omega))
      obtain ⟨hk21, hk22⟩ := hk2
      have hk2i : ¬ (2 : Int) ≤ (kk : Int) := by omega
      have hk2o : ¬ (2 : Int) ≤ (ko : Int) := by omega
      clear TX hN hTa hTb hky hty hkz htz hkk hko
      go_upto_region 9 with (first
        | (refine CM.out.mono ?_; rintro e w' ⟨rfl, rfl⟩)
        | (with_reducible refine load_law rfl 30 (.tmp 3) rfl w.heap.size 0 rfl L _ Tryd.underlying30 rfl HI.out BL.out.cells ?_)
        | (refine (CD.out wr).mono ?_; rintro e w3 ⟨rfl, hX⟩; have X3 := Lib.hid hX; clear hX))
      rw [show ptr (some g0) = .pointer (some ⟨g0, 0, none⟩) from rfl]
      have h3s := X3.out.size
      have h1s := W1.out.size
      have hps := BP.out.lt
      have W3 := Lib.hid (W1.out.trans (X3.out.mono h1s))
      replace BN := Lib.hid (BN.out.below X3.out BN.out.lt).drew
      replace BL := Lib.hid (BL.out.below X3.out BL.out.lt).drew
      replace BR := Lib.hid (BR.out.below X3.out BR.out.lt).drew
      replace BP := Lib.hid (BP.out.below X3.out hps).drew
      replace OV : Hid (Ow2 w3.drew (w.heap.size + 3) 30 32 v (hashes sd)) := (OV.out.below X3.out).keep fun _ _ => rfl
      replace W3 := Lib.hid W3.out.drew
      obtain ⟨rs, hrs⟩ : ∃ r, r = Tm.root (dp + 1) (Tm.half (!Tm.bit k dp) dp lx) := ⟨_, rfl⟩
      have hrl : rs.length = 32 := by rw [hrs]; exact Tm.root_length _ _
      have CA : Hid (∀ W, Below w.heap.size w W → Calls Tryd.prog 38 #[ptr z] W fun e w' => e = .returned (hv rs) ∧ Below W.heap.size W w') := fun W hW => by rw [hrs]; exact sumAll_of (TZ.out.low hW)
      rw [← hrs] at HS2
      have RW := Lib.hid fun W => hashRow (c := rs.map cellOf) (by simpa using hrl) W
      unfold hv at CA
      obtain ⟨RC, hRC⟩ : ∃ c, c = rs.map cellOf := ⟨_, rfl⟩
      rw [← hRC] at RW CA
      have HRC := Lib.hid hRC
      have e1 := HKO.out
      have e2 : IntKind.i64.wrap (ko : Int) = (ko : Int) := by match ko, hk22 with | 0, _ => rfl | 1, _ => rfl
      have hd0 : w3.drew.heap.size = w3.heap.size := rfl
      have hws : w.heap.size + 1 + 1 < w3.drew.heap.size := by rw [hd0]; omega
      refine wp_region_any (by kernel_rfl) ?_
      change wpAny _ _ _ _ _ _ _ (World.drew _)
      generalize w3.drew = wd at *
      clear CM CD hrs hRC hd0 X3 TZ h3s h1s hps HKO w3
      refine wpAny_take (i := 0) (oi := ?oi1) (v := .pointer (some ⟨w.heap.size + 1 + 1, 0, none⟩)) ?hi1 (by kernel_rfl) (by kernel_rfl) (by kernel_rfl) ?hQ1 ?hy1 ?rest1
      case hi1 => simp only [zge]; rfl
      case hQ1 => exact fun _ _ _ h => h
      case hy1 => exact Or.inl ⟨by rfl, by intro w; go_simp⟩
      try simp only [zpt]
      refine wpAny_take (i := 2) (oi := ?oi2) (v := .pointer (some ⟨g0, 0, none⟩)) ?hi2 (by kernel_rfl) (by kernel_rfl) (by kernel_rfl) ?hQ2 ?hy2 ?rest2
      case hi2 => simp only [zge]; rfl
      case hQ2 => exact fun _ _ _ h => h
      case hy2 => exact Or.inl ⟨by rfl, by intro w; go_simp⟩
      try simp only [zpt]
      refine wpAny_take (i := 3) (oi := ?oi3) (v := .int .i64 (kk : Int)) ?hi3 (by kernel_rfl) (by kernel_rfl) (by kernel_rfl) ?hQ3 ?hy3 ?rest3
      case hi3 => simp only [zge]; rfl
      case hQ3 => exact fun _ _ _ h => h
      case hy3 => exact Or.inl ⟨by rfl, by intro w; go_simp⟩
      try simp only [zpt]
      refine wpAny_take (i := 4) (oi := ?oi4) (v := .int .i64 (ko : Int)) ?hi4 (by kernel_rfl) (by kernel_rfl) (by kernel_rfl) ?hQ4 ?hy4 ?rest4
      case hi4 => simp only [zge]; rfl
      case hQ4 => exact fun _ _ _ h => h
      case hy4 => exact Or.inl ⟨by rfl, by intro w; go_simp⟩
      try simp only [zpt]
      refine wpAny_take (i := 5) (oi := ?oi5) (v := .pointer (some ⟨g0, 0, none⟩)) ?hi5 (by kernel_rfl) (by kernel_rfl) (by kernel_rfl) ?hQ5 ?hy5 ?rest5
      case hi5 => simp only [zge]; rfl
      case hQ5 => exact fun _ _ _ h => h
      case hy5 => exact Or.inl ⟨by rfl, by intro w; go_simp⟩
      try simp only [zpt]
      refine wpAny_take (i := 6) (oi := ?oi6) (v := .pointer (some ⟨g0, 33, none⟩)) ?hi6 (by kernel_rfl) (by kernel_rfl) (by kernel_rfl) ?hQ6 ?hy6 ?rest6
      case hi6 => simp only [zge]; rfl
      case hQ6 => exact fun _ _ _ h => h
      case hy6 => exact Or.inl ⟨by rfl, by intro w; go_simp⟩
      try simp only [zpt]
      refine wpAny_take (i := 7) (oi := ?oi7) (v := .pointer (some ⟨g0, 33 + ko, none⟩)) ?hi7 (by kernel_rfl) (by kernel_rfl) (by kernel_rfl) ?hQ7 ?hy7 ?rest7
      case hi7 => simp only [zge]; rfl
      case hQ7 => exact fun _ _ _ h => h
      case hy7 => exact Or.inl ⟨by rfl, by intro w; go_simp⟩
      try simp only [zpt]
      refine phaseL (fun i => if i = 9 then [8] else if i = 10 then [9] else []) (fun d a w' => ∃ x24 x31 x32 x33 : Value, a = { tmps := #[.pointer (some ⟨g, 0, none⟩), .agg L.toArray, undef, .pointer (some ⟨w.heap.size, 0, none⟩), .pointer (some ⟨w.heap.size + 1, 0, none⟩), .pointer (some ⟨w.heap.size + 1 + 1, 0, none⟩), .pointer (some ⟨g0, 0, none⟩), .int .i64 (dp : Int), .int .i64 (kk : Int), .pointer (some ⟨g, 0, none⟩), .bool false, undef, .pointer (some ⟨g, 0, none⟩), .pointer (some ⟨g, 0, none⟩), .pointer (some ⟨g, 0, none⟩), ptr top, .pointer (some ⟨g0, 0, none⟩), .bool true, u18, u19, .agg L.toArray, .int .i64 (dp : Int), .int .i64 (kk : Int), .pointer (some ⟨w.heap.size + 1 + 1, 0, none⟩), x24, .pointer (some ⟨g0, 0, none⟩), .int .i64 (kk : Int), .int .i64 (ko : Int), .pointer (some ⟨g0, 0, none⟩), .pointer (some ⟨g0, 33, none⟩), .pointer (some ⟨g0, 33 + ko, none⟩), x31, x32, x33, u34, u35, u36, u37, u38, u39, u40, u41, undef, undef, undef, undef, undef, undef, undef, undef, undef, undef, undef, undef, undef, undef, undef, undef, undef, undef, undef, undef], defers := [] } ∧ Hid (Below wd.heap.size wd w') ∧ (d 1 = true → x24 = v) ∧ (d 8 = true → x31 = ptr z) ∧ (d 9 = true → x32 = .agg RC.toArray) ∧ (d 10 = true → Hid (RowAt w' wd.heap.size x33 30 RC))) [1, 8, 9, 10] ?step8 3 4 [1, 8, 9, 10] _ _ _ rfl (by decide) (fun _ h => h) (Fits.of (by kernel_rfl)) ?init8 ?fin8
      case init8 => refine ⟨_, _, _, _, rfl, Below.refl _ _, ?_, ?_, ?_, ?_⟩ <;> (intro h; exact absurd h (by decide))
      case step8 =>
        intro i hi d a v8 hI hdi hdeps
        obtain ⟨x24, x31, x32, x33, rfl, BW, h1, h8, h9, h10⟩ := hI
        have hsw := BW.out.size
        simp only [List.mem_cons, List.not_mem_nil, or_false] at hi
        rcases hi with rfl | rfl | rfl | rfl
        · have c0 : v8.cell? ⟨w.heap.size + 1 + 1, 0, none⟩ = some (v) := (BP.out.below BW.out BP.out.lt).cell 0
          refine wpOp_step (o := ?os9) ?hos9 (fun K hK => ?_)
          case hos9 => simp only [zge]; rfl
          go_simp
          refine hK _ _ ?_
          clear hK K
          try simp only [zpt]
          exact ⟨_, _, _, _, rfl, BW, fun _ => rfl, fun a => by first | exact h8 (by simpa using a) | rfl, fun a => by first | exact h9 (by simpa using a) | rfl, fun a => h10 (by simpa using a)⟩
        · have c0 : v8.cell? ⟨g0, 33 + ko, none⟩ = some (ptr z) := by rw [(BN.out.below BW.out BN.out.lt).cell]; exact HKZ.out
          refine wpOp_step (o := ?os10) ?hos10 (fun K hK => ?_)
          case hos10 => simp only [zge]; rfl
          go_simp
          refine hK _ _ ?_
          clear hK K
          try simp only [zpt]
          exact ⟨_, _, _, _, rfl, BW, fun a => by first | exact h1 (by simpa using a) | rfl, fun _ => rfl, fun a => by first | exact h9 (by simpa using a) | rfl, fun a => h10 (by simpa using a)⟩
        · obtain rfl := h8 (hdeps 8 (by simp))
          refine wpOp_step (o := ?os11) ?hos11 (fun K hK => ?_)
          case hos11 => simp only [zge]; rfl
          go_simp
          refine (CA.out v8 (W3.out.trans (BW.out.mono W3.out.size))).mono ?_
          rintro e u8 ⟨rfl, hX⟩
          refine hK _ _ ?_
          clear hK K
          try simp only [zpt]
          exact ⟨_, _, _, _, rfl, BW.out.trans (hX.mono hsw), fun a => by first | exact h1 (by simpa using a) | rfl, fun a => by first | exact h8 (by simpa using a) | rfl, fun _ => rfl, fun a => (h10 (by simpa using a)).out.below hX⟩
        · obtain rfl := h9 (hdeps 9 (by simp))
          have hX := alloc_below v8 (.cells RC.toArray 30)
          refine wpOp_step (o := ?os12) ?hos12 (fun K hK => ?_)
          case hos12 => simp only [zge]; rfl
          refine step_bslice rfl 36 1 #[(0, .tmp 32)] rfl (by simp only [List.map_toArray, List.map_cons, List.map_nil]; exact RW.out _) (hK _ _ ?_)
          clear hK K
          try simp only [zpt]
          exact ⟨_, _, _, _, rfl, BW.out.trans (hX.mono hsw), fun a => by first | exact h1 (by simpa using a) | rfl, fun a => by first | exact h8 (by simpa using a) | rfl, fun a => by first | exact h9 (by simpa using a) | rfl, fun _ => RowAt.new _ _ _ hsw⟩
      case fin8 =>
        intro a v8 hI
        obtain ⟨x24, x31, x32, x33, rfl, BW, h1, h8, h9, h10⟩ := hI
        obtain rfl := (h1 (by decide)).symm
        obtain rfl := h8 (by decide)
        obtain rfl := h9 (by decide)
        obtain ⟨q, rfl, hq, hQ⟩ := (h10 (by decide)).out
        have BN4 := Lib.hid (BN.out.below BW.out BN.out.lt)
        have BL4 := Lib.hid (BL.out.below BW.out BL.out.lt)
        have BR4 := Lib.hid (BR.out.below BW.out BR.out.lt)
        have BP4 := Lib.hid (BP.out.below BW.out BP.out.lt)
        have OV4 := Lib.hid (OV.out.below BW.out)
        have W4 := Lib.hid (W3.out.trans (BW.out.mono W3.out.size))
        have h4s := BW.out.size
        rw [HRC.out] at hQ
        obtain ⟨v', w5, hrun, hO5, hG5, _⟩ := push_hash (ty := 36) (c := 1) OV4.out hQ hrl (by have := HSL.out; have := HD.out; omega) (by omega)
        have OV5 := Lib.hid hO5
        have nv : ∀ m, m < w.heap.size + 3 → some m ≠ v.ownBlock := fun m hm e => by have := (World.ownsRow.lt OV4.out.own m e.symm).1; omega
        have BN5 : Hid (Blk w5 g0 72 (nodeL (Tm.root dp lx) none a b)) := (hG5.block _ BN4.out.lt (OV4.out.ne BN4.out (by decide))).trans BN4.out
        have BL5 : Hid (Blk w5 w.heap.size 30 L) := (hG5.block _ BL4.out.lt (nv _ (by omega))).trans BL4.out
        have BR5 : Hid (Blk w5 (w.heap.size + 1) 38 (proofL (.slice none 0 0) false Z Z)) := (hG5.block _ BR4.out.lt (nv _ (by omega))).trans BR4.out
        have BP5 : Hid (Blk w5 (w.heap.size + 1 + 1) 38 (proofL v false Z Z)) := (hG5.block _ BP4.out.lt (nv _ (by omega))).trans BP4.out
        have W5 : Hid (Below w.heap.size w w5) := W4.out.grown hG5 W4.out.size (fun m hm => by have := (World.ownsRow.lt OV4.out.own m hm).1; omega)
        clear BN BL BR BP OV W3 BW h1 h8 h9 h10 hQ BN4 BL4 BR4 BP4 OV4 hO5 hG5 nv CA RW
        try dsimp only
        refine wpAny_ready (rs := [11]) (by kernel_rfl) (by simp) ?_
        refine AllReady.cons (o := ?p13) ?q13 (fun K hK => ?_) AllReady.nil
        case q13 => simp only [zge]; rfl
        refine step_append rfl (.tmp 24) (.tmp 33) 36 36 rfl rfl rfl hrun (hK _ _ ?_)
        clear hK K hrun
        try simp only [zpt]
        refine wpAny_take (i := 12) (oi := ?oi14) (v := .pointer (some ⟨w.heap.size + 1 + 1, 0, none⟩)) ?hi14 (by kernel_rfl) (by kernel_rfl) (by kernel_rfl) ?hQ14 ?hy14 ?rest14
        case hi14 => simp only [zge]; rfl
        case hQ14 => exact fun _ _ _ h => h
        case hy14 => exact Or.inl ⟨by rfl, by intro w; go_simp⟩
        try simp only [zpt]
        have c5 : w5.cell? ⟨w.heap.size + 1 + 1, 0, none⟩ = some v := BP5.out.cell 0
        have f5 : w5.frozen? ⟨w.heap.size + 1 + 1, 0, none⟩ = false := BP5.out.frozen 0
        obtain ⟨A', cv, hv', _⟩ := OV5.out.rd
        obtain ⟨n5, hn5⟩ : ∃ n, n = (hashes (sd ++ [rs])).length := ⟨_, rfl⟩
        rw [← hn5] at hv'
        subst hv'
        clear hn5
        refine wpAny_ready (rs := [13]) (by kernel_rfl) (by simp) ?_
        refine AllReady.cons (o := ?p15) ?q15 (fun K hK => ?_) AllReady.nil
        case q15 => simp only [zge]; rfl
        go_simp
        refine hK _ _ ?_
        clear hK K c5 f5
        try simp only [zpt]
        have BP6 : Hid (Blk (w5.setCell ⟨w.heap.size + 1 + 1, 0, none⟩ (.slice A' n5 cv)) (w.heap.size + 1 + 1) 38 (proofL (.slice A' n5 cv) false Z Z)) := BP5.out.set_ 0 (.slice A' n5 cv)
        have OV6 : Hid (Ow2 (w5.setCell ⟨w.heap.size + 1 + 1, 0, none⟩ (.slice A' n5 cv)) (w.heap.size + 3) 30 32 (.slice A' n5 cv) (hashes (sd ++ [rs]))) := OV5.out.keep fun m hm => Below.heap_setCell _ _ _ _ (by have := (World.ownsRow.lt OV5.out.own m hm).1; show m ≠ w.heap.size + 1 + 1; omega)
        have BN6 : Hid (Blk (w5.setCell ⟨w.heap.size + 1 + 1, 0, none⟩ (.slice A' n5 cv)) g0 72 (nodeL (Tm.root dp lx) none a b)) := BN5.out.far (fun e => by have h := BN5.out; rw [show g0 = w.heap.size + 1 + 1 from e] at h; have h' := BP5.out; unfold Blk at h h'; rw [h'] at h; injection h with h; injection h with _ h _; exact absurd h (by decide)) _
        have BL6 : Hid (Blk (w5.setCell ⟨w.heap.size + 1 + 1, 0, none⟩ (.slice A' n5 cv)) w.heap.size 30 L) := BL5.out.far (by show w.heap.size ≠ w.heap.size + 1 + 1; omega) _
        have BR6 : Hid (Blk (w5.setCell ⟨w.heap.size + 1 + 1, 0, none⟩ (.slice A' n5 cv)) (w.heap.size + 1) 38 (proofL (.slice none 0 0) false Z Z)) := BR5.out.far (by show w.heap.size + 1 ≠ w.heap.size + 1 + 1; omega) _
        have W6 : Hid (Below w.heap.size w (w5.setCell ⟨w.heap.size + 1 + 1, 0, none⟩ (.slice A' n5 cv))) := W5.out.setCell (by show w.heap.size ≤ w.heap.size + 1 + 1; omega) _
        change wpAny _ _ _ _ _ _ _ (w5.setCell ⟨w.heap.size + 1 + 1, 0, none⟩ (.slice A' n5 cv))
        generalize w5.setCell ⟨w.heap.size + 1 + 1, 0, none⟩ (.slice A' n5 cv) = w6 at *
        have c7 : w6.cell? ⟨g0, 33 + kk, none⟩ = some (ptr y) := by rw [BN6.out.cell]; exact HKY.out
        clear BN5 BL5 BR5 BP5 W5 OV5 BN6 HKY HKZ e1 e2
        refine wpAny_done (by kernel_rfl) ?_ _
        go_wp2_with fail
        go_roundw
        case rel => exact ⟨y, dp + 1, _, sd ++ [rs], .slice A' n5 cv, rfl, by go_num, TY, HF1, by unfold Hid; omega, by unfold Hid; rw [HSD.out, HS2.out]; simp, HED.out.trans HE2.out, by unfold Hid; simp [HSL.out], BL6, BR6, BP6, OV6, W6⟩
        case measure => simp [intOf]; omega
    · have CM := Lib.hid (many_of (TX.out.low W1.out))
      rw [decide_eq_false h2] at CM
      have hSV := OV.out.slice
      have HSS : Hid (res.sides = sd) := by unfold Hid; rw [HS.out, HSD.out, Tm.sides_one (by omega)]; simp
      have HEE : Hid (res = Tm.Prf.of (Tm.sides 0 k l) lx.head?) := by unfold Hid; rw [HE.out, HED.out, Tm.ends_one (by omega)]
      have IR : Hid ((Tryd.prog.info? 38).map (·.size) = some (proofL (.slice none 0 0) false Z Z).length) := proofL_info HZL.out HZL.out
      have hle : w.heap.size ≤ w.heap.size + 1 := by omega
      rcases tr_one TX.out h2 with ⟨rfl, rfl⟩ | ⟨g0, q0, r, rfl, rfl, hN, hQ⟩
      · have HEZ : Hid (res.has = false ∧ res.lab.map cellOf = Z ∧ res.sum.map cellOf = Z ∧ res.lab.length = 32 ∧ res.sum.length = 32) := by unfold Hid; rw [HEE.out, HZ.out]; exact ⟨rfl, rfl, rfl, rfl, rfl⟩
        obtain ⟨P0, hP0⟩ : ∃ P, P = proofL v false Z Z := ⟨_, rfl⟩
        have HI0 : Hid ((Tryd.prog.info? 38).map (·.size) = some P0.length) := by unfold Hid; rw [hP0]; exact proofL_info HZL.out HZL.out
        have HO0 : Hid (∀ u ∈ P0, u.oneCell' = true) := by unfold Hid; rw [hP0]; exact proofL_one hSV HZO.out HZO.out
        have HN0 : Hid ((proofL (.slice none 0 0) false Z Z).length = P0.length) := by unfold Hid; rw [hP0, proofL_length HZL.out HZL.out, proofL_length HZL.out HZL.out]
        have HP0 := Lib.hid hP0
        rw [← hP0] at BP
        clear hP0 hSV TX
        rw [show ptr none = .pointer none from rfl] at CM ⊢
        go_wp2_with (first
          | (refine CM.out.mono ?_; rintro e w' ⟨rfl, rfl⟩)
          | (with_reducible refine load_law rfl 38 (.tmp 5) rfl (w.heap.size + 1 + 1) 0 rfl P0 _ Tryd.underlying38 rfl HI0.out BP.out.cells ?_)
          | (with_reducible refine storeAll_law rfl 38 (.tmp 4) (.tmp 61) rfl (w.heap.size + 1) rfl P0 rfl 38 (proofL (.slice none 0 0) false Z Z) BR.out HI0.out HN0.out HO0.out ?_))
        have B6 : Hid (Blk (wr.setRow (w.heap.size + 1) P0.toArray) (w.heap.size + 1) 38 P0) := BR.out.row
        have OV6 : Hid (Ow2 (wr.setRow (w.heap.size + 1) P0.toArray) w.heap.size 30 32 v (hashes sd)) := (OV.out.keep fun m hm => setRow_other _ _ _ _ (by have := (World.ownsRow.lt OV.out.own m hm).1; omega)).base (by omega)
        have W6 : Hid (Below w.heap.size w (wr.setRow (w.heap.size + 1) P0.toArray)) := below_setRow W1.out hle _
        generalize wr.setRow (w.heap.size + 1) P0.toArray = w6 at *
        exact bodyPost_ret (results_cell_row rfl _ _ (w.heap.size + 1) 38 P0.toArray (0, 0) _ rfl B6.out Tryd.underlying38 rfl (by rw [HI0.out]; simp)) rfl ⟨_, rfl, ⟨⟨v, by rw [HP0.out, HEZ.out.1, HEZ.out.2.1, HEZ.out.2.2.1], by rw [HSS.out]; exact OV6.out⟩, HEZ.out.2.2.2.1, HEZ.out.2.2.2.2⟩, W6.out⟩
      · have hr1 := (HF.out.len r (by simp)).1
        have hr2 := (HF.out.len r (by simp)).2
        have HEZ : Hid (res.has = true ∧ res.lab = r.1 ∧ res.sum = r.2) := by unfold Hid; rw [HEE.out]; exact ⟨rfl, rfl, rfl⟩
        have HRL : Hid (r.1.length = 32 ∧ r.2.length = 32) := ⟨hr1, hr2⟩
        have NP0 := Lib.hid (nodeL_ptrs (q := some q0) (a := none) (b := none) (Tm.leaf_length r.1 r.2)).1
        have HIR := Lib.hid (hash_info hr1)
        have HIS := Lib.hid (hash_info hr2)
        have LR := Lib.hid fun (W : World) (h : Blk W q0 75 (leafL r)) => leaf_label h hr1
        have LS := Lib.hid fun (W : World) (h : Blk W q0 75 (leafL r)) => leaf_sum h hr1
        have HL0 : Hid ((r.1.map cellOf).length = 32) := by unfold Hid; rw [List.length_map, hr1]
        have HS0 : Hid ((r.2.map cellOf).length = 32) := by unfold Hid; rw [List.length_map, hr2]
        have OL0 := Lib.hid (cells_u8 r.1)
        have OS0 := Lib.hid (cells_u8 r.2)
        obtain ⟨L0, hL0⟩ : ∃ L, L = r.1.map cellOf := ⟨_, rfl⟩
        obtain ⟨S0, hS0⟩ : ∃ L, L = r.2.map cellOf := ⟨_, rfl⟩
        rw [← hL0] at HIR LR HL0 OL0
        rw [← hS0] at HIS LS HS0 OS0
        have EL0 := Lib.hid hL0
        have ES0 := Lib.hid hS0
        obtain ⟨P0, hP0⟩ : ∃ P, P = proofL v true L0 S0 := ⟨_, rfl⟩
        have HI0 : Hid ((Tryd.prog.info? 38).map (·.size) = some P0.length) := by unfold Hid; rw [hP0]; exact proofL_info HL0.out HS0.out
        have HO0 : Hid (∀ u ∈ P0, u.oneCell' = true) := by unfold Hid; rw [hP0]; exact proofL_one hSV OL0.out OS0.out
        have HN0 : Hid ((proofL (.slice none 0 0) false Z Z).length = P0.length) := by unfold Hid; rw [hP0, proofL_length HZL.out HZL.out, proofL_length HL0.out HS0.out]
        have HP0 := Lib.hid hP0
        have LBL := Lib.hid fun (b : Bool) => proofL_lab (v := v) (has := b) (sum := Z) HL0.out HZL.out
        have LSM := Lib.hid (proofL_sum (v := v) (has := true) HL0.out HZL.out HS0.out)
        have HNL : Hid (∀ b : Bool, 2 + L0.length ≤ (proofL v b Z Z).length) := fun b => by rw [proofL_length HZL.out HZL.out, HL0.out]; omega
        have HNS : Hid (34 + S0.length ≤ (proofL v true L0 Z).length) := by unfold Hid; rw [proofL_length HL0.out HZL.out, HS0.out]; omega
        have BN := Lib.hid hN
        have BQ := Lib.hid hQ
        clear hN hQ hL0 hS0 hP0 hSV TX hr1 hr2
        rw [show ptr (some g0) = .pointer (some ⟨g0, 0, none⟩) from rfl] at CM ⊢
        go_upto_region 12 with (refine CM.out.mono ?_; rintro e w' ⟨rfl, rfl⟩)
        refine wp_region_any (by kernel_rfl) ?_
        replace BR := Lib.hid BR.out.drew
        replace BP := Lib.hid BP.out.drew
        replace OV : Hid (Ow2 wr.drew (w.heap.size + 3) 30 32 v (hashes sd)) := OV.out.keep fun _ _ => rfl
        replace W1 := Lib.hid W1.out.drew
        have hps := BP.out.lt
        change wpAny _ _ _ _ _ _ _ (World.drew _)
        generalize wr.drew = wd at *
        clear CM
        refine wpAny_take (i := 0) (oi := ?oi16) (v := .pointer (some ⟨g0, 0, none⟩)) ?hi16 (by kernel_rfl) (by kernel_rfl) (by kernel_rfl) ?hQ16 ?hy16 ?rest16
        case hi16 => simp only [zge]; rfl
        case hQ16 => exact fun _ _ _ h => h
        case hy16 => exact Or.inl ⟨by rfl, by intro w; go_simp⟩
        try simp only [zpt]
        refine wpAny_take (i := 1) (oi := ?oi17) (v := .pointer (some ⟨g0, 0, none⟩)) ?hi17 (by kernel_rfl) (by kernel_rfl) (by kernel_rfl) ?hQ17 ?hy17 ?rest17
        case hi17 => simp only [zge]; rfl
        case hQ17 => exact fun _ _ _ h => h
        case hy17 => exact Or.inl ⟨by rfl, by intro w; go_simp⟩
        try simp only [zpt]
        refine wpAny_take (i := 2) (oi := ?oi18) (v := .pointer (some ⟨g0, 32, none⟩)) ?hi18 (by kernel_rfl) (by kernel_rfl) (by kernel_rfl) ?hQ18 ?hy18 ?rest18
        case hi18 => simp only [zge]; rfl
        case hQ18 => exact fun _ _ _ h => h
        case hy18 => exact Or.inl ⟨by rfl, by intro w; go_simp⟩
        try simp only [zpt]
        refine wpAny_take (i := 7) (oi := ?oi19) (v := .pointer (some ⟨g0, 0, none⟩)) ?hi19 (by kernel_rfl) (by kernel_rfl) (by kernel_rfl) ?hQ19 ?hy19 ?rest19
        case hi19 => simp only [zge]; rfl
        case hQ19 => exact fun _ _ _ h => h
        case hy19 => exact Or.inl ⟨by rfl, by intro w; go_simp⟩
        try simp only [zpt]
        refine wpAny_take (i := 8) (oi := ?oi20) (v := .pointer (some ⟨g0, 0, none⟩)) ?hi20 (by kernel_rfl) (by kernel_rfl) (by kernel_rfl) ?hQ20 ?hy20 ?rest20
        case hi20 => simp only [zge]; rfl
        case hQ20 => exact fun _ _ _ h => h
        case hy20 => exact Or.inl ⟨by rfl, by intro w; go_simp⟩
        try simp only [zpt]
        refine wpAny_take (i := 9) (oi := ?oi21) (v := .pointer (some ⟨g0, 32, none⟩)) ?hi21 (by kernel_rfl) (by kernel_rfl) (by kernel_rfl) ?hQ21 ?hy21 ?rest21
        case hi21 => simp only [zge]; rfl
        case hQ21 => exact fun _ _ _ h => h
        case hy21 => exact Or.inl ⟨by rfl, by intro w; go_simp⟩
        try simp only [zpt]
        refine wpAny_take (i := 14) (oi := ?oi22) (v := .pointer (some ⟨w.heap.size + 1 + 1, 1, none⟩)) ?hi22 (by kernel_rfl) (by kernel_rfl) (by kernel_rfl) ?hQ22 ?hy22 ?rest22
        case hi22 => simp only [zge]; rfl
        case hQ22 => exact fun _ _ _ h => h
        case hy22 => exact Or.inl ⟨by rfl, by intro w; go_simp⟩
        try simp only [zpt]
        refine phaseL (fun i => if i = 4 then [3] else if i = 5 then [4] else if i = 6 then [5] else if i = 11 then [10] else if i = 12 then [11] else if i = 13 then [12] else if i = 16 then [3, 4, 5, 6, 15] else if i = 17 then [16, 6, 15, 3, 4, 5] else []) (fun d a w' => ∃ x47 x48 x49 x50 x54 x55 x56 x57 x59 : Value, a = { tmps := #[.pointer (some ⟨g, 0, none⟩), .agg L.toArray, undef, .pointer (some ⟨w.heap.size, 0, none⟩), .pointer (some ⟨w.heap.size + 1, 0, none⟩), .pointer (some ⟨w.heap.size + 1 + 1, 0, none⟩), .pointer (some ⟨g0, 0, none⟩), .int .i64 (dp : Int), u8, .pointer (some ⟨g, 0, none⟩), .bool false, undef, .pointer (some ⟨g, 0, none⟩), .pointer (some ⟨g, 0, none⟩), .pointer (some ⟨g, 0, none⟩), ptr top, .pointer (some ⟨g0, 0, none⟩), .bool false, u18, u19, u20, u21, u22, u23, u24, u25, u26, u27, u28, u29, u30, u31, u32, u33, u34, u35, u36, u37, u38, u39, u40, u41, .pointer (some ⟨g0, 0, none⟩), .bool true, .pointer (some ⟨g0, 0, none⟩), .pointer (some ⟨g0, 0, none⟩), .pointer (some ⟨g0, 32, none⟩), x47, x48, x49, x50, .pointer (some ⟨g0, 0, none⟩), .pointer (some ⟨g0, 0, none⟩), .pointer (some ⟨g0, 32, none⟩), x54, x55, x56, x57, .pointer (some ⟨w.heap.size + 1 + 1, 1, none⟩), x59, undef, undef], defers := [] } ∧ Hid (Below w.heap.size w w') ∧ (d 3 = true → x47 = .pointer (some ⟨q0, 0, none⟩)) ∧ (d 4 = true → x48 = .pointer (some ⟨q0, 0, none⟩)) ∧ (d 5 = true → x49 = .pointer (some ⟨q0, 0, none⟩)) ∧ (d 6 = true → x50 = .agg L0.toArray) ∧ (d 10 = true → x54 = .pointer (some ⟨q0, 0, none⟩)) ∧ (d 11 = true → x55 = .pointer (some ⟨q0, 0, none⟩)) ∧ (d 12 = true → x56 = .pointer (some ⟨q0, 32, none⟩)) ∧ (d 13 = true → x57 = .agg S0.toArray) ∧ (d 16 = true → x59 = .pointer (some ⟨w.heap.size + 1 + 1, 2, none⟩)) ∧ Hid (Blk w' (w.heap.size + 1) 38 (proofL (.slice none 0 0) false Z Z)) ∧ Hid (Ow2 w' (w.heap.size + 3) 30 32 v (hashes sd)) ∧ Hid (Blk w' (w.heap.size + 1 + 1) 38 (proofL v (d 15) (if d 17 = true then L0 else Z) Z))) [3, 4, 5, 6, 10, 11, 12, 13, 15, 16, 17] ?step23 2 11 [3, 4, 5, 6, 10, 11, 12, 13, 15, 16, 17] _ _ _ rfl (by decide) (fun _ h => h) (Fits.of (by kernel_rfl)) ?init23 ?fin23
        case init23 => exact ⟨_, _, _, _, _, _, _, _, _, rfl, W1, fun h => absurd h (by decide), fun h => absurd h (by decide), fun h => absurd h (by decide), fun h => absurd h (by decide), fun h => absurd h (by decide), fun h => absurd h (by decide), fun h => absurd h (by decide), fun h => absurd h (by decide), fun h => absurd h (by decide), BR, OV, BP⟩
        case step23 =>
          intro i hi d a v23 hI hdi hdeps
          obtain ⟨x47, x48, x49, x50, x54, x55, x56, x57, x59, rfl, BW, h3, h4, h5, h6, h10, h11, h12, h13, h16, HR, HO, HP⟩ := hI
          simp only [List.mem_cons, List.not_mem_nil, or_false] at hi
          rcases hi with rfl | rfl | rfl | rfl | rfl | rfl | rfl | rfl | rfl | rfl | rfl
          · have c0 : v23.cell? ⟨g0, 32, none⟩ = some (.pointer (some ⟨q0, 0, none⟩)) := by rw [(BN.out.below BW.out BN.out.lt).cell]; exact NP0.out
            refine wpOp_step (o := ?os24) ?hos24 (fun K hK => ?_)
            case hos24 => simp only [zge]; rfl
            go_simp
            refine hK _ _ ?_
            clear hK K
            try simp only [zpt]
            exact ⟨_, _, _, _, _, _, _, _, _, rfl, BW, fun _ => rfl, fun a => by first | exact h4 (by simpa using a) | rfl, fun a => by first | exact h5 (by simpa using a) | rfl, fun a => by first | exact h6 (by simpa using a) | rfl, fun a => by first | exact h10 (by simpa using a) | rfl, fun a => by first | exact h11 (by simpa using a) | rfl, fun a => by first | exact h12 (by simpa using a) | rfl, fun a => by first | exact h13 (by simpa using a) | rfl, fun a => by first | exact h16 (by simpa using a) | rfl, HR, HO, by unfold Hid; simpa using HP.out⟩
          · obtain rfl := h3 (hdeps 3 (by simp))
            refine wpOp_step (o := ?os25) ?hos25 (fun K hK => ?_)
            case hos25 => simp only [zge]; rfl
            go_simp
            refine hK _ _ ?_
            clear hK K
            try simp only [zpt]
            exact ⟨_, _, _, _, _, _, _, _, _, rfl, BW, fun a => by first | exact h3 (by simpa using a) | rfl, fun _ => rfl, fun a => by first | exact h5 (by simpa using a) | rfl, fun a => by first | exact h6 (by simpa using a) | rfl, fun a => by first | exact h10 (by simpa using a) | rfl, fun a => by first | exact h11 (by simpa using a) | rfl, fun a => by first | exact h12 (by simpa using a) | rfl, fun a => by first | exact h13 (by simpa using a) | rfl, fun a => by first | exact h16 (by simpa using a) | rfl, HR, HO, by unfold Hid; simpa using HP.out⟩
          · obtain rfl := h4 (hdeps 4 (by simp))
            refine wpOp_step (o := ?os26) ?hos26 (fun K hK => ?_)
            case hos26 => simp only [zge]; rfl
            go_simp
            refine hK _ _ ?_
            clear hK K
            try simp only [zpt]
            exact ⟨_, _, _, _, _, _, _, _, _, rfl, BW, fun a => by first | exact h3 (by simpa using a) | rfl, fun a => by first | exact h4 (by simpa using a) | rfl, fun _ => rfl, fun a => by first | exact h6 (by simpa using a) | rfl, fun a => by first | exact h10 (by simpa using a) | rfl, fun a => by first | exact h11 (by simpa using a) | rfl, fun a => by first | exact h12 (by simpa using a) | rfl, fun a => by first | exact h13 (by simpa using a) | rfl, fun a => by first | exact h16 (by simpa using a) | rfl, HR, HO, by unfold Hid; simpa using HP.out⟩
          · obtain rfl := h5 (hdeps 5 (by simp))
            refine wpOp_step (o := ?os27) ?hos27 (fun K hK => ?_)
            case hos27 => simp only [zge]; rfl
            refine step_loadW rfl 30 (.tmp 49) rfl q0 0 rfl L0 _ Tryd.underlying30 rfl HIR.out (LR.out v23 (BQ.out.below BW.out BQ.out.lt)) (hK _ _ ?_)
            clear hK K
            try simp only [zpt]
            exact ⟨_, _, _, _, _, _, _, _, _, rfl, BW, fun a => by first | exact h3 (by simpa using a) | rfl, fun a => by first | exact h4 (by simpa using a) | rfl, fun a => by first | exact h5 (by simpa using a) | rfl, fun _ => rfl, fun a => by first | exact h10 (by simpa using a) | rfl, fun a => by first | exact h11 (by simpa using a) | rfl, fun a => by first | exact h12 (by simpa using a) | rfl, fun a => by first | exact h13 (by simpa using a) | rfl, fun a => by first | exact h16 (by simpa using a) | rfl, HR, HO, by unfold Hid; simpa using HP.out⟩
          · have c0 : v23.cell? ⟨g0, 32, none⟩ = some (.pointer (some ⟨q0, 0, none⟩)) := by rw [(BN.out.below BW.out BN.out.lt).cell]; exact NP0.out
            refine wpOp_step (o := ?os28) ?hos28 (fun K hK => ?_)
            case hos28 => simp only [zge]; rfl
            go_simp
            refine hK _ _ ?_
            clear hK K
            try simp only [zpt]
            exact ⟨_, _, _, _, _, _, _, _, _, rfl, BW, fun a => by first | exact h3 (by simpa using a) | rfl, fun a => by first | exact h4 (by simpa using a) | rfl, fun a => by first | exact h5 (by simpa using a) | rfl, fun a => by first | exact h6 (by simpa using a) | rfl, fun _ => rfl, fun a => by first | exact h11 (by simpa using a) | rfl, fun a => by first | exact h12 (by simpa using a) | rfl, fun a => by first | exact h13 (by simpa using a) | rfl, fun a => by first | exact h16 (by simpa using a) | rfl, HR, HO, by unfold Hid; simpa using HP.out⟩
          · obtain rfl := h10 (hdeps 10 (by simp))
            refine wpOp_step (o := ?os29) ?hos29 (fun K hK => ?_)
            case hos29 => simp only [zge]; rfl
            go_simp
            refine hK _ _ ?_
            clear hK K
            try simp only [zpt]
            exact ⟨_, _, _, _, _, _, _, _, _, rfl, BW, fun a => by first | exact h3 (by simpa using a) | rfl, fun a => by first | exact h4 (by simpa using a) | rfl, fun a => by first | exact h5 (by simpa using a) | rfl, fun a => by first | exact h6 (by simpa using a) | rfl, fun a => by first | exact h10 (by simpa using a) | rfl, fun _ => rfl, fun a => by first | exact h12 (by simpa using a) | rfl, fun a => by first | exact h13 (by simpa using a) | rfl, fun a => by first | exact h16 (by simpa using a) | rfl, HR, HO, by unfold Hid; simpa using HP.out⟩
          · obtain rfl := h11 (hdeps 11 (by simp))
            refine wpOp_step (o := ?os30) ?hos30 (fun K hK => ?_)
            case hos30 => simp only [zge]; rfl
            go_simp
            refine hK _ _ ?_
            clear hK K
            try simp only [zpt]
            exact ⟨_, _, _, _, _, _, _, _, _, rfl, BW, fun a => by first | exact h3 (by simpa using a) | rfl, fun a => by first | exact h4 (by simpa using a) | rfl, fun a => by first | exact h5 (by simpa using a) | rfl, fun a => by first | exact h6 (by simpa using a) | rfl, fun a => by first | exact h10 (by simpa using a) | rfl, fun a => by first | exact h11 (by simpa using a) | rfl, fun _ => rfl, fun a => by first | exact h13 (by simpa using a) | rfl, fun a => by first | exact h16 (by simpa using a) | rfl, HR, HO, by unfold Hid; simpa using HP.out⟩
          · obtain rfl := h12 (hdeps 12 (by simp))
            refine wpOp_step (o := ?os31) ?hos31 (fun K hK => ?_)
            case hos31 => simp only [zge]; rfl
            refine step_loadW rfl 30 (.tmp 56) rfl q0 32 rfl S0 _ Tryd.underlying30 rfl HIS.out (LS.out v23 (BQ.out.below BW.out BQ.out.lt)) (hK _ _ ?_)
            clear hK K
            try simp only [zpt]
            exact ⟨_, _, _, _, _, _, _, _, _, rfl, BW, fun a => by first | exact h3 (by simpa using a) | rfl, fun a => by first | exact h4 (by simpa using a) | rfl, fun a => by first | exact h5 (by simpa using a) | rfl, fun a => by first | exact h6 (by simpa using a) | rfl, fun a => by first | exact h10 (by simpa using a) | rfl, fun a => by first | exact h11 (by simpa using a) | rfl, fun a => by first | exact h12 (by simpa using a) | rfl, fun _ => rfl, fun a => by first | exact h16 (by simpa using a) | rfl, HR, HO, by unfold Hid; simpa using HP.out⟩
          · have c0 : v23.cell? ⟨w.heap.size + 1 + 1, 1, none⟩ = some (.bool (d 15)) := HP.out.cell 1
            have f0 : v23.frozen? ⟨w.heap.size + 1 + 1, 1, none⟩ = false := HP.out.frozen 1
            refine wpOp_step (o := ?os32) ?hos32 (fun K hK => ?_)
            case hos32 => simp only [zge]; rfl
            go_simp
            refine hK _ _ ?_
            clear hK K
            try simp only [zpt]
            refine ⟨_, _, _, _, _, _, _, _, _, rfl, BW.out.setCell (by show w.heap.size ≤ w.heap.size + 1 + 1; omega) _, fun a => by first | exact h3 (by simpa using a) | rfl, fun a => by first | exact h4 (by simpa using a) | rfl, fun a => by first | exact h5 (by simpa using a) | rfl, fun a => by first | exact h6 (by simpa using a) | rfl, fun a => by first | exact h10 (by simpa using a) | rfl, fun a => by first | exact h11 (by simpa using a) | rfl, fun a => by first | exact h12 (by simpa using a) | rfl, fun a => by first | exact h13 (by simpa using a) | rfl, fun a => by first | exact h16 (by simpa using a) | rfl, HR.out.far (by show w.heap.size + 1 ≠ w.heap.size + 1 + 1; omega) _, HO.out.keep fun m hm => Below.heap_setCell _ _ _ _ (by have := (World.ownsRow.lt HO.out.own m hm).1; show m ≠ w.heap.size + 1 + 1; omega), ?_⟩
            have := HP.out.set_ 1 (.bool true)
            unfold Hid
            simpa [proofL] using this
          · refine wpOp_step (o := ?os33) ?hos33 (fun K hK => ?_)
            case hos33 => simp only [zge]; rfl
            go_simp
            refine hK _ _ ?_
            clear hK K
            try simp only [zpt]
            exact ⟨_, _, _, _, _, _, _, _, _, rfl, BW, fun a => by first | exact h3 (by simpa using a) | rfl, fun a => by first | exact h4 (by simpa using a) | rfl, fun a => by first | exact h5 (by simpa using a) | rfl, fun a => by first | exact h6 (by simpa using a) | rfl, fun a => by first | exact h10 (by simpa using a) | rfl, fun a => by first | exact h11 (by simpa using a) | rfl, fun a => by first | exact h12 (by simpa using a) | rfl, fun a => by first | exact h13 (by simpa using a) | rfl, fun _ => rfl, HR, HO, by unfold Hid; simpa using HP.out⟩
          · obtain rfl := h6 (hdeps 6 (by simp))
            obtain rfl := h16 (hdeps 16 (by simp))
            have d15 : d 15 = true := hdeps 15 (by simp)
            have HP1 := HP.out
            rw [hdi, d15, if_neg (by decide)] at HP1
            refine wpOp_step (o := ?os34) ?hos34 (fun K hK => ?_)
            case hos34 => simp only [zge]; rfl
            refine step_store rfl 30 (.tmp 59) (.tmp 50) rfl (w.heap.size + 1 + 1) 2 rfl L0 rfl 38 (proofL v true Z Z) HP1 HIR.out (HNL.out true) OL0.out (hK _ _ ?_)
            clear hK K
            try simp only [zpt]
            refine ⟨_, _, _, _, _, _, _, _, _, rfl, below_setRow BW.out (by omega) _, fun a => by first | exact h3 (by simpa using a) | rfl, fun a => by first | exact h4 (by simpa using a) | rfl, fun a => by first | exact h5 (by simpa using a) | rfl, fun a => by first | exact h6 (by simpa using a) | rfl, fun a => by first | exact h10 (by simpa using a) | rfl, fun a => by first | exact h11 (by simpa using a) | rfl, fun a => by first | exact h12 (by simpa using a) | rfl, fun a => by first | exact h13 (by simpa using a) | rfl, fun a => by first | exact h16 (by simpa using a) | rfl, HR.out.rowFar (by omega) _, HO.out.keep fun m hm => setRow_other _ _ _ _ (by have := (World.ownsRow.lt HO.out.own m hm).1; omega), ?_⟩
            rw [LBL.out true]
            have := HP1.row (cs' := proofL v true L0 Z)
            unfold Hid
            simpa [d15] using this
        case fin23 =>
          intro a v23 hI
          obtain ⟨x47, x48, x49, x50, x54, x55, x56, x57, x59, rfl, BW, h3, h4, h5, h6, h10, h11, h12, h13, h16, HR, HO, HP⟩ := hI
          obtain rfl := h3 (by decide)
          obtain rfl := h4 (by decide)
          obtain rfl := h5 (by decide)
          obtain rfl := h6 (by decide)
          obtain rfl := h10 (by decide)
          obtain rfl := h11 (by decide)
          obtain rfl := h12 (by decide)
          obtain rfl := h13 (by decide)
          obtain rfl := h16 (by decide)
          have HP1 : Hid (Blk v23 (w.heap.size + 1 + 1) 38 (proofL v true L0 Z)) := HP.out
          clear HP BR BP OV W1
          try dsimp only
          refine wpAny_take (i := 18) (oi := ?oi35) (v := .pointer (some ⟨w.heap.size + 1 + 1, 34, none⟩)) ?hi35 (by kernel_rfl) (by kernel_rfl) (by kernel_rfl) ?hQ35 ?hy35 ?rest35
          case hi35 => simp only [zge]; rfl
          case hQ35 => exact fun _ _ _ h => h
          case hy35 => exact Or.inl ⟨by rfl, by intro w; go_simp⟩
          try simp only [zpt]
          refine wpAny_ready (rs := [19]) (by kernel_rfl) (by simp) ?_
          refine AllReady.cons (o := ?p36) ?q36 (fun K hK => ?_) AllReady.nil
          case q36 => simp only [zge]; rfl
          refine step_store rfl 30 (.tmp 60) (.tmp 57) rfl (w.heap.size + 1 + 1) 34 rfl S0 rfl 38 (proofL v true L0 Z) HP1.out HIS.out HNS.out OS0.out (hK _ _ ?_)
          clear hK K
          try simp only [zpt]
          rw [LSM.out, ← HP0.out]
          have BP2 : Hid (Blk (v23.setRow (w.heap.size + 1 + 1) P0.toArray) (w.heap.size + 1 + 1) 38 P0) := HP1.out.row
          have BR2 : Hid (Blk (v23.setRow (w.heap.size + 1 + 1) P0.toArray) (w.heap.size + 1) 38 (proofL (.slice none 0 0) false Z Z)) := HR.out.rowFar (by omega) _
          have OV2 : Hid (Ow2 (v23.setRow (w.heap.size + 1 + 1) P0.toArray) (w.heap.size + 3) 30 32 v (hashes sd)) := HO.out.keep fun m hm => setRow_other _ _ _ _ (by have := (World.ownsRow.lt HO.out.own m hm).1; omega)
          have W2 : Hid (Below w.heap.size w (v23.setRow (w.heap.size + 1 + 1) P0.toArray)) := below_setRow BW.out (by omega) _
          generalize v23.setRow (w.heap.size + 1 + 1) P0.toArray = w4 at *
          clear HP1 HR HO BW
          refine wpAny_done (by kernel_rfl) ?_ _
          go_wp2_with (first
            | (with_reducible refine load_law rfl 38 (.tmp 5) rfl (w.heap.size + 1 + 1) 0 rfl P0 _ Tryd.underlying38 rfl HI0.out BP2.out.cells ?_)
            | (with_reducible refine storeAll_law rfl 38 (.tmp 4) (.tmp 61) rfl (w.heap.size + 1) rfl P0 rfl 38 (proofL (.slice none 0 0) false Z Z) BR2.out HI0.out HN0.out HO0.out ?_))
          have B6 : Hid (Blk (w4.setRow (w.heap.size + 1) P0.toArray) (w.heap.size + 1) 38 P0) := BR2.out.row
          have OV6 : Hid (Ow2 (w4.setRow (w.heap.size + 1) P0.toArray) w.heap.size 30 32 v (hashes sd)) := (OV2.out.keep fun m hm => setRow_other _ _ _ _ (by have := (World.ownsRow.lt OV2.out.own m hm).1; omega)).base (by omega)
          have W6 : Hid (Below w.heap.size w (w4.setRow (w.heap.size + 1) P0.toArray)) := below_setRow W2.out hle _
          generalize w4.setRow (w.heap.size + 1) P0.toArray = w6 at *
          exact bodyPost_ret (results_cell_row rfl _ _ (w.heap.size + 1) 38 P0.toArray (0, 0) _ rfl B6.out Tryd.underlying38 rfl (by rw [HI0.out]; simp)) rfl ⟨_, rfl, ⟨⟨v, by rw [HP0.out, EL0.out, ES0.out, HEZ.out.1, HEZ.out.2.1, HEZ.out.2.2], by rw [HSS.out]; exact OV6.out⟩, by rw [HEZ.out.2.1]; exact HRL.out.1, by rw [HEZ.out.2.2]; exact HRL.out.2⟩, W6.out⟩
end Go.Proofs.YtmidbpjdpakkoaaDoor
