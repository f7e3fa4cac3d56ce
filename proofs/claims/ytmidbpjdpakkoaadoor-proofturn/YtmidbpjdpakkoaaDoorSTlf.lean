import Derived.Test.YtmidbpjdpakkoaaDoorSSmall
import Derived.Test.YtmidbpjdpakkoaaDoorSTbit
namespace Go.Proofs.YtmidbpjdpakkoaaDoor
set_option linter.unusedVariables false
set_option linter.unusedSimpArgs false
set_option maxRecDepth 100000
open Go.RowKit
set_option maxRecDepth 100000 in
set_option maxHeartbeats 2000000 in
theorem tleaf_any {w : World} (hg : Gl w) {a b : List UInt8} (ha : a.length = 32) (hb : b.length = 32) : Calls Tryd.prog 34 #[hv a, hv b] w fun e w' => e = .returned (hv (Tm.leaf a b)) ∧ Below w.heap.size w w' := by
  have HG := Lib.hid hg
  obtain ⟨L, hL⟩ : ∃ L, L = a.map cellOf := ⟨_, rfl⟩
  obtain ⟨S, hS⟩ : ∃ S, S = b.map cellOf := ⟨_, rfl⟩
  unfold hv
  rw [← hL, ← hS]
  obtain ⟨w1, hw1⟩ : ∃ w1, w1 = (((w.alloc (.cells L.toArray 30)).alloc (.cells S.toArray 30)).alloc (.cells (List.replicate 32 (Value.int .u8 0)).toArray 30)).drew := ⟨_, rfl⟩
  have HW : Hid (Below w.heap.size w w1) := by unfold Hid; rw [hw1]; exact ((((Below.refl _ _).alloc (Nat.le_refl _) _).alloc (by simp) _).alloc (by simp; omega) _).drew
  have HL : Hid (Blk w1 w.heap.size 30 L) := by unfold Hid; rw [hw1]; exact (((Blk.new w 30 _).alloc _).alloc _).drew
  have HS : Hid (Blk w1 (w.heap.size + 1) 30 S) := by unfold Hid; rw [hw1]; exact ((Blk.at_new _ _ 30 _ _ rfl (by simp)).alloc _).drew
  have HZ : Hid (Blk w1 (w.heap.size + 2) 30 (List.replicate 32 (Value.int .u8 0))) := by unfold Hid; rw [hw1]; exact (Blk.at_new _ _ 30 _ _ rfl (by simp)).drew
  have RL : Hid (Rd w1 (some ⟨w.heap.size, 0, none⟩) 32 32 a) := hash_rd HL.out hL ha
  have RS : Hid (Rd w1 (some ⟨w.heap.size + 1, 0, none⟩) 32 32 b) := hash_rd HS.out hS hb
  have hs1 := HZ.out.lt
  clear hg hL hS HL HS
  go_enter Tryd.func34, Tryd.ntmps34
  go_upto_region 1 with (fail)
  refine wp_region_any (by kernel_rfl) ?_
  change wpAny _ _ _ _ _ _ _ ((((w.alloc (.cells L.toArray 30)).alloc (.cells S.toArray 30)).alloc (.cells (List.replicate 32 (Value.int .u8 0)).toArray 30)).drew)
  rw [← hw1]
  clear hw1
  refine wpAny_take (i := 1) (oi := ?oi1) (v := .slice (some ⟨w.heap.size, 0, none⟩) 32 32) ?hi1 (by kernel_rfl) (by kernel_rfl) (by kernel_rfl) ?hQ1 ?hy1 ?rest1
  case hi1 => simp only [zge]; rfl
  case hQ1 => exact fun _ _ _ h => h
  case hy1 => exact Or.inl ⟨by rfl, by intro w; go_simp⟩
  try simp only [zpt]
  refine wpAny_take (i := 2) (oi := ?oi2) (v := .slice (some ⟨w.heap.size + 1, 0, none⟩) 32 32) ?hi2 (by kernel_rfl) (by kernel_rfl) (by kernel_rfl) ?hQ2 ?hy2 ?rest2
  case hi2 => simp only [zge]; rfl
  case hQ2 => exact fun _ _ _ h => h
  case hy2 => exact Or.inl ⟨by rfl, by intro w; go_simp⟩
  try simp only [zpt]
  refine wpAny_ready (rs := [0]) (by kernel_rfl) (by simp) ?_
  refine AllReady.cons (o := ?p3) ?q3 (fun K hK => ?_) AllReady.nil
  case q3 => simp only [zge]; rfl
  have R2 := Lib.hid (lit_bytesF w1 [0] #[.int .u8 0] 1 w1.heap.size (0, 0) rfl rfl (by omega) rfl)
  have X2 := Lib.hid (alloc_below w1 (.cells #[.int .u8 0] 5))
  go_simp
  refine hK _ _ ?_
  clear hK K
  try simp only [zpt]
  generalize w1.alloc (.cells #[.int .u8 0] 5) = w2 at *
  have RP := Lib.hid (lit_parts3' w2 R2.out (RL.out.below X2.out) (RS.out.below X2.out) rfl)
  have X3 := Lib.hid (alloc_below w2 (.cells #[.slice (some ⟨w1.heap.size, 0, none⟩) 1 1, .slice (some ⟨w.heap.size, 0, none⟩) 32 32, .slice (some ⟨w.heap.size + 1, 0, none⟩) 32 32] 59))
  refine wpAny_ready (rs := [3]) (by kernel_rfl) (by simp) ?_
  refine AllReady.cons (o := ?p4) ?q4 (fun K hK => ?_) AllReady.nil
  case q4 => simp only [zge]; rfl
  go_simp
  refine hK _ _ ?_
  clear hK K
  try simp only [zpt]
  generalize w2.alloc (.cells #[.slice (some ⟨w1.heap.size, 0, none⟩) 1 1, .slice (some ⟨w.heap.size, 0, none⟩) 32 32, .slice (some ⟨w.heap.size + 1, 0, none⟩) 32 32] 59) = w3 at *
  have h3 := X3.out.size
  have h2 := X2.out.size
  have W3 := Lib.hid (HW.out.trans ((X2.out.mono HW.out.size).trans (X3.out.mono (by omega))))
  have Z3 := Lib.hid ((HZ.out.below X2.out hs1).below X3.out (by omega))
  have CS := Lib.hid (shaSum_any (c := 3) (HG.out.below W3.out HG.out.size) RP.out (by omega) (by simp [ha, hb]))
  clear RL RS R2 RP X2 X3 HW HZ HG
  refine wpAny_ready (rs := [4]) (by kernel_rfl) (by simp) ?_
  refine AllReady.cons (o := ?p5) ?q5 (fun K hK => ?_) AllReady.nil
  case q5 => simp only [zge]; rfl
  go_simp
  refine CS.out.mono ?_
  rintro e w4 ⟨D, rfl, hM, hX⟩
  have W4 := Lib.hid (W3.out.trans (hX.mono W3.out.size))
  have Z4 := Lib.hid (Z3.out.below hX Z3.out.lt)
  obtain rfl : D = (Tm.leaf a b).map cellOf := by rw [hM]; simp [Tm.leaf]
  obtain ⟨D, hD⟩ : ∃ D, D = (Tm.leaf a b).map cellOf := ⟨_, rfl⟩
  rw [← hD]
  have HDD := Lib.hid hD
  have HI : Hid ((Tryd.prog.info? 30).map (·.size) = some D.length) := by unfold Hid; rw [hD]; exact hash_info (Tm.leaf_length a b)
  have HN : Hid ((List.replicate 32 (Value.int .u8 0)).length = D.length) := by unfold Hid; rw [hD, List.length_map, Tm.leaf_length]; rfl
  have HO : Hid (∀ v ∈ D, v.oneCell' = true) := by unfold Hid; rw [hD]; exact cells_u8 _
  clear hM hX hD CS Z3 W3
  refine hK _ _ ?_
  clear hK K
  try simp only [zpt]
  refine wpAny_ready (rs := [5]) (by kernel_rfl) (by simp) ?_
  refine AllReady.cons (o := ?p6) ?q6 (fun K hK => ?_) AllReady.nil
  case q6 => simp only [zge]; rfl
  refine step_storeAll rfl 30 (.tmp 4) (.tmp 9) rfl (w.heap.size + 2) rfl D rfl 30 (List.replicate 32 (Value.int .u8 0)) Z4.out HI.out HN.out HO.out (hK _ _ ?_)
  clear hK K
  try simp only [zpt]
  have B9 : Hid (Blk (w4.setRow (w.heap.size + 2) D.toArray) (w.heap.size + 2) 30 D) := Z4.out.row
  have W9 : Hid (Below w.heap.size w (w4.setRow (w.heap.size + 2) D.toArray)) := below_setRow W4.out (by omega) _
  clear W4 Z4
  generalize w4.setRow (w.heap.size + 2) D.toArray = w9 at *
  refine wpAny_done (by kernel_rfl) ?_ _
  go_wp2_with fail
  exact bodyPost_ret (results_cell_row rfl _ _ (w.heap.size + 2) 30 D.toArray (0, 0) _ rfl B9.out Tryd.underlying30 rfl (by rw [HI.out]; simp)) rfl ⟨by rw [HDD.out], W9.out⟩
set_option maxRecDepth 100000 in
set_option maxHeartbeats 2000000 in
theorem tnode_any {w : World} (hg : Gl w) {a b : List UInt8} (ha : a.length = 32) (hb : b.length = 32) : Calls Tryd.prog 35 #[hv a, hv b] w fun e w' => e = .returned (hv (Tm.node a b)) ∧ Below w.heap.size w w' := by
  have HG := Lib.hid hg
  obtain ⟨L, hL⟩ : ∃ L, L = a.map cellOf := ⟨_, rfl⟩
  obtain ⟨S, hS⟩ : ∃ S, S = b.map cellOf := ⟨_, rfl⟩
  unfold hv
  rw [← hL, ← hS]
  obtain ⟨w1, hw1⟩ : ∃ w1, w1 = (((w.alloc (.cells L.toArray 30)).alloc (.cells S.toArray 30)).alloc (.cells (List.replicate 32 (Value.int .u8 0)).toArray 30)).drew := ⟨_, rfl⟩
  have HW : Hid (Below w.heap.size w w1) := by unfold Hid; rw [hw1]; exact ((((Below.refl _ _).alloc (Nat.le_refl _) _).alloc (by simp) _).alloc (by simp; omega) _).drew
  have HL : Hid (Blk w1 w.heap.size 30 L) := by unfold Hid; rw [hw1]; exact (((Blk.new w 30 _).alloc _).alloc _).drew
  have HS : Hid (Blk w1 (w.heap.size + 1) 30 S) := by unfold Hid; rw [hw1]; exact ((Blk.at_new _ _ 30 _ _ rfl (by simp)).alloc _).drew
  have HZ : Hid (Blk w1 (w.heap.size + 2) 30 (List.replicate 32 (Value.int .u8 0))) := by unfold Hid; rw [hw1]; exact (Blk.at_new _ _ 30 _ _ rfl (by simp)).drew
  have RL : Hid (Rd w1 (some ⟨w.heap.size, 0, none⟩) 32 32 a) := hash_rd HL.out hL ha
  have RS : Hid (Rd w1 (some ⟨w.heap.size + 1, 0, none⟩) 32 32 b) := hash_rd HS.out hS hb
  have hs1 := HZ.out.lt
  clear hg hL hS HL HS
  go_enter Tryd.func35, Tryd.ntmps35
  go_upto_region 1 with (fail)
  refine wp_region_any (by kernel_rfl) ?_
  change wpAny _ _ _ _ _ _ _ ((((w.alloc (.cells L.toArray 30)).alloc (.cells S.toArray 30)).alloc (.cells (List.replicate 32 (Value.int .u8 0)).toArray 30)).drew)
  rw [← hw1]
  clear hw1
  refine wpAny_take (i := 1) (oi := ?oi7) (v := .slice (some ⟨w.heap.size, 0, none⟩) 32 32) ?hi7 (by kernel_rfl) (by kernel_rfl) (by kernel_rfl) ?hQ7 ?hy7 ?rest7
  case hi7 => simp only [zge]; rfl
  case hQ7 => exact fun _ _ _ h => h
  case hy7 => exact Or.inl ⟨by rfl, by intro w; go_simp⟩
  try simp only [zpt]
  refine wpAny_take (i := 2) (oi := ?oi8) (v := .slice (some ⟨w.heap.size + 1, 0, none⟩) 32 32) ?hi8 (by kernel_rfl) (by kernel_rfl) (by kernel_rfl) ?hQ8 ?hy8 ?rest8
  case hi8 => simp only [zge]; rfl
  case hQ8 => exact fun _ _ _ h => h
  case hy8 => exact Or.inl ⟨by rfl, by intro w; go_simp⟩
  try simp only [zpt]
  refine wpAny_ready (rs := [0]) (by kernel_rfl) (by simp) ?_
  refine AllReady.cons (o := ?p9) ?q9 (fun K hK => ?_) AllReady.nil
  case q9 => simp only [zge]; rfl
  have R2 := Lib.hid (lit_bytesF w1 [1] #[.int .u8 1] 1 w1.heap.size (0, 0) rfl rfl (by omega) rfl)
  have X2 := Lib.hid (alloc_below w1 (.cells #[.int .u8 1] 5))
  go_simp
  refine hK _ _ ?_
  clear hK K
  try simp only [zpt]
  generalize w1.alloc (.cells #[.int .u8 1] 5) = w2 at *
  have RP := Lib.hid (lit_parts3' w2 R2.out (RL.out.below X2.out) (RS.out.below X2.out) rfl)
  have X3 := Lib.hid (alloc_below w2 (.cells #[.slice (some ⟨w1.heap.size, 0, none⟩) 1 1, .slice (some ⟨w.heap.size, 0, none⟩) 32 32, .slice (some ⟨w.heap.size + 1, 0, none⟩) 32 32] 59))
  refine wpAny_ready (rs := [3]) (by kernel_rfl) (by simp) ?_
  refine AllReady.cons (o := ?p10) ?q10 (fun K hK => ?_) AllReady.nil
  case q10 => simp only [zge]; rfl
  go_simp
  refine hK _ _ ?_
  clear hK K
  try simp only [zpt]
  generalize w2.alloc (.cells #[.slice (some ⟨w1.heap.size, 0, none⟩) 1 1, .slice (some ⟨w.heap.size, 0, none⟩) 32 32, .slice (some ⟨w.heap.size + 1, 0, none⟩) 32 32] 59) = w3 at *
  have h3 := X3.out.size
  have h2 := X2.out.size
  have W3 := Lib.hid (HW.out.trans ((X2.out.mono HW.out.size).trans (X3.out.mono (by omega))))
  have Z3 := Lib.hid ((HZ.out.below X2.out hs1).below X3.out (by omega))
  have CS := Lib.hid (shaSum_any (c := 3) (HG.out.below W3.out HG.out.size) RP.out (by omega) (by simp [ha, hb]))
  clear RL RS R2 RP X2 X3 HW HZ HG
  refine wpAny_ready (rs := [4]) (by kernel_rfl) (by simp) ?_
  refine AllReady.cons (o := ?p11) ?q11 (fun K hK => ?_) AllReady.nil
  case q11 => simp only [zge]; rfl
  go_simp
  refine CS.out.mono ?_
  rintro e w4 ⟨D, rfl, hM, hX⟩
  have W4 := Lib.hid (W3.out.trans (hX.mono W3.out.size))
  have Z4 := Lib.hid (Z3.out.below hX Z3.out.lt)
  obtain rfl : D = (Tm.node a b).map cellOf := by rw [hM]; simp [Tm.node]
  obtain ⟨D, hD⟩ : ∃ D, D = (Tm.node a b).map cellOf := ⟨_, rfl⟩
  rw [← hD]
  have HDD := Lib.hid hD
  have HI : Hid ((Tryd.prog.info? 30).map (·.size) = some D.length) := by unfold Hid; rw [hD]; exact hash_info (Tm.node_length a b)
  have HN : Hid ((List.replicate 32 (Value.int .u8 0)).length = D.length) := by unfold Hid; rw [hD, List.length_map, Tm.node_length]; rfl
  have HO : Hid (∀ v ∈ D, v.oneCell' = true) := by unfold Hid; rw [hD]; exact cells_u8 _
  clear hM hX hD CS Z3 W3
  refine hK _ _ ?_
  clear hK K
  try simp only [zpt]
  refine wpAny_ready (rs := [5]) (by kernel_rfl) (by simp) ?_
  refine AllReady.cons (o := ?p12) ?q12 (fun K hK => ?_) AllReady.nil
  case q12 => simp only [zge]; rfl
  refine step_storeAll rfl 30 (.tmp 4) (.tmp 9) rfl (w.heap.size + 2) rfl D rfl 30 (List.replicate 32 (Value.int .u8 0)) Z4.out HI.out HN.out HO.out (hK _ _ ?_)
  clear hK K
  try simp only [zpt]
  have B9 : Hid (Blk (w4.setRow (w.heap.size + 2) D.toArray) (w.heap.size + 2) 30 D) := Z4.out.row
  have W9 : Hid (Below w.heap.size w (w4.setRow (w.heap.size + 2) D.toArray)) := below_setRow W4.out (by omega) _
  clear W4 Z4
  generalize w4.setRow (w.heap.size + 2) D.toArray = w9 at *
  refine wpAny_done (by kernel_rfl) ?_ _
  go_wp2_with fail
  exact bodyPost_ret (results_cell_row rfl _ _ (w.heap.size + 2) 30 D.toArray (0, 0) _ rfl B9.out Tryd.underlying30 rfl (by rw [HI.out]; simp)) rfl ⟨by rw [HDD.out], W9.out⟩
set_option maxRecDepth 100000 in
set_option maxHeartbeats 2000000 in
theorem rleaf_any {w : World} {a b : List UInt8} (ha : a.length = 32) (hb : b.length = 32) : Calls Tryd.prog 33 #[hv a, hv b] w fun e w' => e = .returned (hv (Tm.leaf a b)) ∧ Below w.heap.size w w' := by
  obtain ⟨L, hL⟩ : ∃ L, L = a.map cellOf := ⟨_, rfl⟩
  obtain ⟨S, hS⟩ : ∃ S, S = b.map cellOf := ⟨_, rfl⟩
  unfold hv
  rw [← hL, ← hS]
  obtain ⟨w1, hw1⟩ : ∃ w1, w1 = (((w.alloc (.cells L.toArray 30)).alloc (.cells S.toArray 30)).alloc (.cells (List.replicate 32 (Value.int .u8 0)).toArray 30)).drew := ⟨_, rfl⟩
  have HW : Hid (Below w.heap.size w w1) := by unfold Hid; rw [hw1]; exact ((((Below.refl _ _).alloc (Nat.le_refl _) _).alloc (by simp) _).alloc (by simp; omega) _).drew
  have HL : Hid (Blk w1 w.heap.size 30 L) := by unfold Hid; rw [hw1]; exact (((Blk.new w 30 _).alloc _).alloc _).drew
  have HS : Hid (Blk w1 (w.heap.size + 1) 30 S) := by unfold Hid; rw [hw1]; exact ((Blk.at_new _ _ 30 _ _ rfl (by simp)).alloc _).drew
  have HZ : Hid (Blk w1 (w.heap.size + 2) 30 (List.replicate 32 (Value.int .u8 0))) := by unfold Hid; rw [hw1]; exact (Blk.at_new _ _ 30 _ _ rfl (by simp)).drew
  have RL : Hid (Rd w1 (some ⟨w.heap.size, 0, none⟩) 32 32 a) := hash_rd HL.out hL ha
  have RS : Hid (Rd w1 (some ⟨w.heap.size + 1, 0, none⟩) 32 32 b) := hash_rd HS.out hS hb
  have hs1 := HZ.out.lt
  clear hL hS HL HS
  go_enter Tryd.func33, Tryd.ntmps33
  go_upto_region 1 with (fail)
  refine wp_region_any (by kernel_rfl) ?_
  change wpAny _ _ _ _ _ _ _ ((((w.alloc (.cells L.toArray 30)).alloc (.cells S.toArray 30)).alloc (.cells (List.replicate 32 (Value.int .u8 0)).toArray 30)).drew)
  rw [← hw1]
  clear hw1
  refine wpAny_take (i := 1) (oi := ?oi13) (v := .slice (some ⟨w.heap.size, 0, none⟩) 32 32) ?hi13 (by kernel_rfl) (by kernel_rfl) (by kernel_rfl) ?hQ13 ?hy13 ?rest13
  case hi13 => simp only [zge]; rfl
  case hQ13 => exact fun _ _ _ h => h
  case hy13 => exact Or.inl ⟨by rfl, by intro w; go_simp⟩
  try simp only [zpt]
  refine wpAny_take (i := 3) (oi := ?oi14) (v := .slice (some ⟨w.heap.size + 1, 0, none⟩) 32 32) ?hi14 (by kernel_rfl) (by kernel_rfl) (by kernel_rfl) ?hQ14 ?hy14 ?rest14
  case hi14 => simp only [zge]; rfl
  case hQ14 => exact fun _ _ _ h => h
  case hy14 => exact Or.inl ⟨by rfl, by intro w; go_simp⟩
  try simp only [zpt]
  refine wpAny_ready (rs := [0]) (by kernel_rfl) (by simp) ?_
  refine AllReady.cons (o := ?p15) ?q15 (fun K hK => ?_) AllReady.nil
  case q15 => simp only [zge]; rfl
  have O2 := Lib.hid (own_lit1 w1 0 (.int .u8 0) rfl)
  have X2 := Lib.hid (alloc_below w1 (.cells #[.int .u8 0] 5))
  go_simp
  refine hK _ _ ?_
  clear hK K
  try simp only [zpt]
  generalize w1.alloc (.cells #[.int .u8 0] 5) = w2 at *
  have W2 := Lib.hid (HW.out.trans (X2.out.mono HW.out.size))
  have Z2 := Lib.hid (HZ.out.below X2.out hs1)
  have RL2 := Lib.hid (RL.out.below X2.out)
  have O2lt : w1.heap.size < w2.heap.size := O2.out.2
  have RS1 := Lib.hid RS.out
  clear RL RS
  refine wpAny_ready (rs := [2]) (by kernel_rfl) (by simp) ?_
  refine AllReady.cons (o := ?p16) ?q16 (fun K hK => ?_) AllReady.nil
  case q16 => simp only [zge]; rfl
  refine step_onto rfl (.tmp 5) (.tmp 6) rfl rfl rfl RL2.out O2.out.1 (by simp) (by omega) (Nat.le_of_lt O2lt) (Below.refl w1.heap.size w2) ?_
  intro v3 w3 O3 X3
  refine hK _ _ ?_
  clear hK K
  try simp only [zpt]
  have h2 := X2.out.size
  have h3 := X3.out.size
  have W3 := Lib.hid (W2.out.trans (X3.out.mono HW.out.size))
  have RS3 : Hid (Rd w3 (some ⟨w.heap.size + 1, 0, none⟩) 32 32 b) := RS1.out.low (X2.out.trans X3.out)
  have Z3 : Hid (Blk w3 (w.heap.size + 2) 30 (List.replicate 32 (Value.int .u8 0))) := ((X2.out.trans X3.out).block _ hs1).trans HZ.out
  clear RS1 W2 O2 RL2 X3
  refine wpAny_ready (rs := [4]) (by kernel_rfl) (by simp) ?_
  refine AllReady.cons (o := ?p17) ?q17 (fun K hK => ?_) AllReady.nil
  case q17 => simp only [zge]; rfl
  refine step_onto rfl (.tmp 7) (.tmp 8) rfl rfl rfl RS3.out O3.out (by simp [ha]) (by omega) (by omega) (Below.refl w1.heap.size w3) ?_
  intro v4 w4 O4 X4
  refine hK _ _ ?_
  clear hK K
  try simp only [zpt]
  have hn : ([0] ++ a ++ b).length = 65 := by simp [ha, hb]
  have h4 := X4.out.size
  have W4 := Lib.hid (W3.out.trans (X4.out.mono HW.out.size))
  have Z4 : Hid (Blk w4 (w.heap.size + 2) 30 (List.replicate 32 (Value.int .u8 0))) := (X4.out.block _ hs1).trans Z3.out
  obtain ⟨A, c, hv4, R4, _⟩ := O4.out.value
  rw [hn] at hv4 R4
  subst hv4
  have CS := Lib.hid (rsum_any R4 (by omega))
  clear W3 Z3 O3 RS3 R4 X4
  refine wpAny_ready (rs := [5]) (by kernel_rfl) (by simp) ?_
  refine AllReady.cons (o := ?p18) ?q18 (fun K hK => ?_) AllReady.nil
  case q18 => simp only [zge]; rfl
  go_simp
  refine CS.out.mono ?_
  rintro e w5 ⟨D, rfl, hM, hX⟩
  have W5 := Lib.hid (W4.out.trans (hX.mono W4.out.size))
  have Z5 := Lib.hid (Z4.out.below hX Z4.out.lt)
  obtain rfl : D = (Tm.leaf a b).map cellOf := by rw [hM]; simp [Tm.leaf]
  obtain ⟨D, hD⟩ : ∃ D, D = (Tm.leaf a b).map cellOf := ⟨_, rfl⟩
  rw [← hD]
  have HDD := Lib.hid hD
  have HI : Hid ((Tryd.prog.info? 30).map (·.size) = some D.length) := by unfold Hid; rw [hD]; exact hash_info (Tm.leaf_length a b)
  have HN : Hid ((List.replicate 32 (Value.int .u8 0)).length = D.length) := by unfold Hid; rw [hD, List.length_map, Tm.leaf_length]; rfl
  have HO : Hid (∀ v ∈ D, v.oneCell' = true) := by unfold Hid; rw [hD]; exact cells_u8 _
  clear hM hX hD CS Z4 W4 O4
  refine hK _ _ ?_
  clear hK K
  try simp only [zpt]
  refine wpAny_ready (rs := [6]) (by kernel_rfl) (by simp) ?_
  refine AllReady.cons (o := ?p19) ?q19 (fun K hK => ?_) AllReady.nil
  case q19 => simp only [zge]; rfl
  refine step_storeAll rfl 30 (.tmp 4) (.tmp 10) rfl (w.heap.size + 2) rfl D rfl 30 (List.replicate 32 (Value.int .u8 0)) Z5.out HI.out HN.out HO.out (hK _ _ ?_)
  clear hK K
  try simp only [zpt]
  have B9 : Hid (Blk (w5.setRow (w.heap.size + 2) D.toArray) (w.heap.size + 2) 30 D) := Z5.out.row
  have W9 : Hid (Below w.heap.size w (w5.setRow (w.heap.size + 2) D.toArray)) := below_setRow W5.out (by omega) _
  clear W5 Z5
  generalize w5.setRow (w.heap.size + 2) D.toArray = w9 at *
  refine wpAny_done (by kernel_rfl) ?_ _
  go_wp2_with fail
  exact bodyPost_ret (results_cell_row rfl _ _ (w.heap.size + 2) 30 D.toArray (0, 0) _ rfl B9.out Tryd.underlying30 rfl (by rw [HI.out]; simp)) rfl ⟨by rw [HDD.out], W9.out⟩
set_option maxRecDepth 100000 in
set_option maxHeartbeats 2000000 in
theorem rnode_any {w : World} {a b : List UInt8} (ha : a.length = 32) (hb : b.length = 32) : Calls Tryd.prog 36 #[hv a, hv b] w fun e w' => e = .returned (hv (Tm.node a b)) ∧ Below w.heap.size w w' := by
  obtain ⟨L, hL⟩ : ∃ L, L = a.map cellOf := ⟨_, rfl⟩
  obtain ⟨S, hS⟩ : ∃ S, S = b.map cellOf := ⟨_, rfl⟩
  unfold hv
  rw [← hL, ← hS]
  obtain ⟨w1, hw1⟩ : ∃ w1, w1 = (((w.alloc (.cells L.toArray 30)).alloc (.cells S.toArray 30)).alloc (.cells (List.replicate 32 (Value.int .u8 0)).toArray 30)).drew := ⟨_, rfl⟩
  have HW : Hid (Below w.heap.size w w1) := by unfold Hid; rw [hw1]; exact ((((Below.refl _ _).alloc (Nat.le_refl _) _).alloc (by simp) _).alloc (by simp; omega) _).drew
  have HL : Hid (Blk w1 w.heap.size 30 L) := by unfold Hid; rw [hw1]; exact (((Blk.new w 30 _).alloc _).alloc _).drew
  have HS : Hid (Blk w1 (w.heap.size + 1) 30 S) := by unfold Hid; rw [hw1]; exact ((Blk.at_new _ _ 30 _ _ rfl (by simp)).alloc _).drew
  have HZ : Hid (Blk w1 (w.heap.size + 2) 30 (List.replicate 32 (Value.int .u8 0))) := by unfold Hid; rw [hw1]; exact (Blk.at_new _ _ 30 _ _ rfl (by simp)).drew
  have RL : Hid (Rd w1 (some ⟨w.heap.size, 0, none⟩) 32 32 a) := hash_rd HL.out hL ha
  have RS : Hid (Rd w1 (some ⟨w.heap.size + 1, 0, none⟩) 32 32 b) := hash_rd HS.out hS hb
  have hs1 := HZ.out.lt
  clear hL hS HL HS
  go_enter Tryd.func36, Tryd.ntmps36
  go_upto_region 1 with (fail)
  refine wp_region_any (by kernel_rfl) ?_
  change wpAny _ _ _ _ _ _ _ ((((w.alloc (.cells L.toArray 30)).alloc (.cells S.toArray 30)).alloc (.cells (List.replicate 32 (Value.int .u8 0)).toArray 30)).drew)
  rw [← hw1]
  clear hw1
  refine wpAny_take (i := 1) (oi := ?oi20) (v := .slice (some ⟨w.heap.size, 0, none⟩) 32 32) ?hi20 (by kernel_rfl) (by kernel_rfl) (by kernel_rfl) ?hQ20 ?hy20 ?rest20
  case hi20 => simp only [zge]; rfl
  case hQ20 => exact fun _ _ _ h => h
  case hy20 => exact Or.inl ⟨by rfl, by intro w; go_simp⟩
  try simp only [zpt]
  refine wpAny_take (i := 3) (oi := ?oi21) (v := .slice (some ⟨w.heap.size + 1, 0, none⟩) 32 32) ?hi21 (by kernel_rfl) (by kernel_rfl) (by kernel_rfl) ?hQ21 ?hy21 ?rest21
  case hi21 => simp only [zge]; rfl
  case hQ21 => exact fun _ _ _ h => h
  case hy21 => exact Or.inl ⟨by rfl, by intro w; go_simp⟩
  try simp only [zpt]
  refine wpAny_ready (rs := [0]) (by kernel_rfl) (by simp) ?_
  refine AllReady.cons (o := ?p22) ?q22 (fun K hK => ?_) AllReady.nil
  case q22 => simp only [zge]; rfl
  have O2 := Lib.hid (own_lit1 w1 1 (.int .u8 1) rfl)
  have X2 := Lib.hid (alloc_below w1 (.cells #[.int .u8 1] 5))
  go_simp
  refine hK _ _ ?_
  clear hK K
  try simp only [zpt]
  generalize w1.alloc (.cells #[.int .u8 1] 5) = w2 at *
  have W2 := Lib.hid (HW.out.trans (X2.out.mono HW.out.size))
  have Z2 := Lib.hid (HZ.out.below X2.out hs1)
  have RL2 := Lib.hid (RL.out.below X2.out)
  have O2lt : w1.heap.size < w2.heap.size := O2.out.2
  have RS1 := Lib.hid RS.out
  clear RL RS
  refine wpAny_ready (rs := [2]) (by kernel_rfl) (by simp) ?_
  refine AllReady.cons (o := ?p23) ?q23 (fun K hK => ?_) AllReady.nil
  case q23 => simp only [zge]; rfl
  refine step_onto rfl (.tmp 5) (.tmp 6) rfl rfl rfl RL2.out O2.out.1 (by simp) (by omega) (Nat.le_of_lt O2lt) (Below.refl w1.heap.size w2) ?_
  intro v3 w3 O3 X3
  refine hK _ _ ?_
  clear hK K
  try simp only [zpt]
  have h2 := X2.out.size
  have h3 := X3.out.size
  have W3 := Lib.hid (W2.out.trans (X3.out.mono HW.out.size))
  have RS3 : Hid (Rd w3 (some ⟨w.heap.size + 1, 0, none⟩) 32 32 b) := RS1.out.low (X2.out.trans X3.out)
  have Z3 : Hid (Blk w3 (w.heap.size + 2) 30 (List.replicate 32 (Value.int .u8 0))) := ((X2.out.trans X3.out).block _ hs1).trans HZ.out
  clear RS1 W2 O2 RL2 X3
  refine wpAny_ready (rs := [4]) (by kernel_rfl) (by simp) ?_
  refine AllReady.cons (o := ?p24) ?q24 (fun K hK => ?_) AllReady.nil
  case q24 => simp only [zge]; rfl
  refine step_onto rfl (.tmp 7) (.tmp 8) rfl rfl rfl RS3.out O3.out (by simp [ha]) (by omega) (by omega) (Below.refl w1.heap.size w3) ?_
  intro v4 w4 O4 X4
  refine hK _ _ ?_
  clear hK K
  try simp only [zpt]
  have hn : ([1] ++ a ++ b).length = 65 := by simp [ha, hb]
  have h4 := X4.out.size
  have W4 := Lib.hid (W3.out.trans (X4.out.mono HW.out.size))
  have Z4 : Hid (Blk w4 (w.heap.size + 2) 30 (List.replicate 32 (Value.int .u8 0))) := (X4.out.block _ hs1).trans Z3.out
  obtain ⟨A, c, hv4, R4, _⟩ := O4.out.value
  rw [hn] at hv4 R4
  subst hv4
  have CS := Lib.hid (rsum_any R4 (by omega))
  clear W3 Z3 O3 RS3 R4 X4
  refine wpAny_ready (rs := [5]) (by kernel_rfl) (by simp) ?_
  refine AllReady.cons (o := ?p25) ?q25 (fun K hK => ?_) AllReady.nil
  case q25 => simp only [zge]; rfl
  go_simp
  refine CS.out.mono ?_
  rintro e w5 ⟨D, rfl, hM, hX⟩
  have W5 := Lib.hid (W4.out.trans (hX.mono W4.out.size))
  have Z5 := Lib.hid (Z4.out.below hX Z4.out.lt)
  obtain rfl : D = (Tm.node a b).map cellOf := by rw [hM]; simp [Tm.node]
  obtain ⟨D, hD⟩ : ∃ D, D = (Tm.node a b).map cellOf := ⟨_, rfl⟩
  rw [← hD]
  have HDD := Lib.hid hD
  have HI : Hid ((Tryd.prog.info? 30).map (·.size) = some D.length) := by unfold Hid; rw [hD]; exact hash_info (Tm.node_length a b)
  have HN : Hid ((List.replicate 32 (Value.int .u8 0)).length = D.length) := by unfold Hid; rw [hD, List.length_map, Tm.node_length]; rfl
  have HO : Hid (∀ v ∈ D, v.oneCell' = true) := by unfold Hid; rw [hD]; exact cells_u8 _
  clear hM hX hD CS Z4 W4 O4
  refine hK _ _ ?_
  clear hK K
  try simp only [zpt]
  refine wpAny_ready (rs := [6]) (by kernel_rfl) (by simp) ?_
  refine AllReady.cons (o := ?p26) ?q26 (fun K hK => ?_) AllReady.nil
  case q26 => simp only [zge]; rfl
  refine step_storeAll rfl 30 (.tmp 4) (.tmp 10) rfl (w.heap.size + 2) rfl D rfl 30 (List.replicate 32 (Value.int .u8 0)) Z5.out HI.out HN.out HO.out (hK _ _ ?_)
  clear hK K
  try simp only [zpt]
  have B9 : Hid (Blk (w5.setRow (w.heap.size + 2) D.toArray) (w.heap.size + 2) 30 D) := Z5.out.row
  have W9 : Hid (Below w.heap.size w (w5.setRow (w.heap.size + 2) D.toArray)) := below_setRow W5.out (by omega) _
  clear W5 Z5
  generalize w5.setRow (w.heap.size + 2) D.toArray = w9 at *
  refine wpAny_done (by kernel_rfl) ?_ _
  go_wp2_with fail
  exact bodyPost_ret (results_cell_row rfl _ _ (w.heap.size + 2) 30 D.toArray (0, 0) _ rfl B9.out Tryd.underlying30 rfl (by rw [HI.out]; simp)) rfl ⟨by rw [HDD.out], W9.out⟩
end Go.Proofs.YtmidbpjdpakkoaaDoor
