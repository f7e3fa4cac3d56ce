import Derived.Test.YtijncclcdkgaoaaDoorSPadAll
import Derived.Test.YtijncclcdkgaoaaDoorSRk
namespace Go.Proofs.YtijncclcdkgaoaaDoor
set_option linter.unusedVariables false
set_option linter.unusedSimpArgs false
set_option maxRecDepth 100000
open Go.RowKit
theorem keys_parts (l : List UInt8) (ep : Int) : (Rc.keysOf l ep).map cellOf = (Rc.sealKey l ep).map cellOf ++ (Rc.markKey l).map cellOf ++ (Rc.labelKey l).map cellOf := by rw [Rc.keysOf, List.map_append, List.map_append]
theorem zeros28 : Tryd.zeroCells28 = (List.replicate 96 (Value.int .u8 0)).toArray := by kernel_rfl
theorem zeros30 : Tryd.zeroCells30 = (List.replicate 96 (Value.int .u8 0)).toArray := by kernel_rfl
theorem same_hash (l : List UInt8) (h : l.length = 32) (W : World) : (Op.equalIn 10000 26 (.agg (l.map cellOf).toArray) (.agg (l.map cellOf).toArray)).run Tryd.prog W = .ok true W := by rw [equal30 _ _ h h, sameB_self]
end Go.Proofs.YtijncclcdkgaoaaDoor
namespace Go.Proofs.YtijncclcdkgaoaaDoor.keysAll
set_option linter.unusedVariables false
set_option linter.unusedSimpArgs false
set_option maxRecDepth 100000
open Go.RowKit
set_option maxRecDepth 100000 in
set_option maxHeartbeats 8000000 in
theorem walk {P : BxP} (hB : BoxOk P) {A : Option Addr} {k c : Nat} {l : List UInt8} (ep ot : Int) (w : World) (hg : Gl w) (hr : Rd w A k c l) (n1 : -9223372036854775808 ≤ ep) (n2 : ep ≤ 9223372036854775807) (n3 : -9223372036854775808 ≤ ot) (n4 : ot ≤ 9223372036854775807) : Calls Tryd.prog 3 #[.slice A k c, .int .i64 ep, .int .i64 ot] w fun e w' => e = .returned (.bool true) ∧ Below w.heap.size w w' := by
  have HG := Lib.hid hg
  have HB := Lib.hid hB
  have hsz := hg.size
  obtain ⟨m, hm⟩ : ∃ m, m = min k 100 := ⟨_, rfl⟩
  have SH : Hid (∀ W, Calls Tryd.prog 13 #[.slice A k c, .int .i64 100] W fun e w' => e = .returned (.slice A m c) ∧ W = w') := fun W => by rw [hm]; exact short_eq 100 hr.cap hr.max (by omega)
  have RA : Hid (Rd w A m c (l.take 100)) := by unfold Hid; rw [hm]; exact hr.short 100
  have hm6 : m ≤ 100 := by omega
  obtain ⟨s, hs⟩ : ∃ s, s = l.take 100 := ⟨_, rfl⟩
  rw [← hs] at RA
  clear hg hB hr hm hs
  obtain ⟨a0, ha0⟩ : ∃ k, k = (Rc.sealKey s ep).map cellOf := ⟨_, rfl⟩
  obtain ⟨a1, ha1⟩ : ∃ k, k = (Rc.sealKey s ot).map cellOf := ⟨_, rfl⟩
  obtain ⟨km, hkm⟩ : ∃ k, k = (Rc.markKey s).map cellOf := ⟨_, rfl⟩
  obtain ⟨kl, hkl⟩ : ∃ k, k = (Rc.labelKey s).map cellOf := ⟨_, rfl⟩
  have LA0 : Hid (a0.length = 32) := by unfold Hid; rw [ha0, List.length_map, Rc.sealKey_length]
  have LA1 : Hid (a1.length = 32) := by unfold Hid; rw [ha1, List.length_map, Rc.sealKey_length]
  have LKM : Hid (km.length = 32) := by unfold Hid; rw [hkm, List.length_map, Rc.markKey_length]
  have LKL : Hid (kl.length = 32) := by unfold Hid; rw [hkl, List.length_map, Rc.labelKey_length]
  have I32 : ∀ l : List Value, l.length = 32 → (Tryd.prog.info? 26).map (·.size) = some l.length := fun l h => by rw [h]; kernel_rfl
  have I96 : ∀ l : List Value, l.length = 96 → (Tryd.prog.info? 28).map (·.size) = some l.length := fun l h => by rw [h]; kernel_rfl
  have J96 : ∀ l : List Value, l.length = 96 → (Tryd.prog.info? 30).map (·.size) = some l.length := fun l h => by rw [h]; kernel_rfl
  have IA0 := Lib.hid (I32 a0 LA0.out)
  have IA1 := Lib.hid (I32 a1 LA1.out)
  have IKM := Lib.hid (I32 km LKM.out)
  have IKL := Lib.hid (I32 kl LKL.out)
  obtain ⟨k0, hk0⟩ : ∃ k, k = a0 ++ km ++ kl := ⟨_, rfl⟩
  obtain ⟨k1, hk1⟩ : ∃ k, k = a1 ++ km ++ kl := ⟨_, rfl⟩
  have LK0 : Hid (k0.length = 96) := by unfold Hid; rw [hk0, List.length_append, List.length_append, LA0.out, LKM.out, LKL.out]
  have LK1 : Hid (k1.length = 96) := by unfold Hid; rw [hk1, List.length_append, List.length_append, LA1.out, LKM.out, LKL.out]
  have IK0 := Lib.hid (I96 k0 LK0.out)
  have IK1 := Lib.hid (I96 k1 LK1.out)
  have JK0 := Lib.hid (J96 k0 LK0.out)
  have JK1 := Lib.hid (J96 k1 LK1.out)
  have e0 : (Rc.keysOf s ep).map cellOf = k0 := by rw [hk0, ha0, hkm, hkl]; exact keys_parts s ep
  have e1 : (Rc.keysOf s ot).map cellOf = k1 := by rw [hk1, ha1, hkm, hkl]; exact keys_parts s ot
  have OK0 : Hid (∀ v ∈ k0, v.oneCell' = true) := by unfold Hid; rw [← e0]; exact cells_u8 _
  have OK1 : Hid (∀ v ∈ k1, v.oneCell' = true) := by unfold Hid; rw [← e1]; exact cells_u8 _
  have CK0 : Hid (∀ W : World, Gl W → Rd W A m c s → Calls Tryd.prog 14 #[.slice A m c, .int .i64 ep] W fun e w' => e = .returned (.agg k0.toArray) ∧ Below W.heap.size W w') := fun W h1 h2 => by rw [← e0]; exact keys_any ep h1 h2 (by omega) (by omega) (by omega)
  have CK1 : Hid (∀ W : World, Gl W → Rd W A m c s → Calls Tryd.prog 14 #[.slice A m c, .int .i64 ot] W fun e w' => e = .returned (.agg k1.toArray) ∧ Below W.heap.size W w') := fun W h1 h2 => by rw [← e1]; exact keys_any ot h1 h2 (by omega) (by omega) (by omega)
  have RK0 : Hid (∀ W : World, Rd W A m c s → Calls Tryd.prog 15 #[.slice A m c, .int .i64 ep] W fun e w' => e = .returned (.agg k0.toArray) ∧ Below W.heap.size W w') := fun W h2 => by rw [← e0]; exact rkeys_any ep h2 (by omega) (by omega) (by omega)
  have RK1 : Hid (∀ W : World, Rd W A m c s → Calls Tryd.prog 15 #[.slice A m c, .int .i64 ot] W fun e w' => e = .returned (.agg k1.toArray) ∧ Below W.heap.size W w') := fun W h2 => by rw [← e1]; exact rkeys_any ot h2 (by omega) (by omega) (by omega)
  have Q0 : Hid (∀ W, (Op.equalIn 10000 26 (.agg a0.toArray) (.agg a0.toArray)).run Tryd.prog W = .ok true W) := fun W => by rw [ha0]; exact same_hash _ (Rc.sealKey_length _ _) W
  have Q1 : Hid (∀ W, (Op.equalIn 10000 26 (.agg a1.toArray) (.agg a1.toArray)).run Tryd.prog W = .ok true W) := fun W => by rw [ha1]; exact same_hash _ (Rc.sealKey_length _ _) W
  have Q2 : Hid (∀ W, (Op.equalIn 10000 26 (.agg km.toArray) (.agg km.toArray)).run Tryd.prog W = .ok true W) := fun W => by rw [hkm]; exact same_hash _ (Rc.markKey_length _) W
  have Q3 : Hid (∀ W, (Op.equalIn 10000 26 (.agg kl.toArray) (.agg kl.toArray)).run Tryd.prog W = .ok true W) := fun W => by rw [hkl]; exact same_hash _ (Rc.labelKey_length _) W
  have HK0 := Lib.hid hk0
  have HK1 := Lib.hid hk1
  clear ha0 ha1 hkm hkl hk0 hk1 e0 e1 I32 I96 J96
  obtain ⟨Z, hZ⟩ : ∃ Z, Z = List.replicate 96 (Value.int .u8 0) := ⟨_, rfl⟩
  have HZ : Hid (Tryd.zeroCells28 = Z.toArray) := by unfold Hid; rw [hZ]; exact zeros28
  have HZ' : Hid (Tryd.zeroCells30 = Z.toArray) := by unfold Hid; rw [hZ]; exact zeros30
  have LZ0 : Hid (Z.length = k0.length) := by unfold Hid; rw [hZ, LK0.out]; rfl
  have LZ1 : Hid (Z.length = k1.length) := by unfold Hid; rw [hZ, LK1.out]; rfl
  clear hZ
  go_enter Tryd.func3, Tryd.ntmps3
  go_wp2_with fail
  refine (begun9_any HB.out HG.out).mono ?_
  rintro e w1 ⟨rfl, hX⟩
  have W1 := Lib.hid hX
  replace RA := Lib.hid (RA.out.below hX)
  clear hX
  go_wp2_with fail
  refine (SH.out w1).mono ?_
  rintro e w2 ⟨rfl, rfl⟩
  go_wp2_with fail
  refine (CK0.out w1 (HG.out.below W1.out hsz) RA.out).mono ?_
  rintro e wa0 ⟨rfl, hY⟩
  have Wwa0 := Lib.hid (W1.out.trans (hY.mono W1.out.size))
  replace RA := Lib.hid (RA.out.below hY)
  clear hY CK0
  go_wp2_with fail
  refine (RK0.out wa0 RA.out).mono ?_
  rintro e wb0 ⟨rfl, hY⟩
  have Wwb0 := Lib.hid (Wwa0.out.trans (hY.mono Wwa0.out.size))
  replace RA := Lib.hid (RA.out.below hY)
  clear hY RK0
  have Z1 : Hid (Blk ((wb0.alloc (.cells Tryd.zeroCells28 28)).alloc (.cells Tryd.zeroCells30 30)) wb0.heap.size 28 Z) := (Blk.at_new _ _ 28 _ _ HZ.out rfl).alloc _
  have Z2 : Hid (Blk ((((wb0.alloc (.cells Tryd.zeroCells28 28)).alloc (.cells Tryd.zeroCells30 30)).setRow wb0.heap.size k0.toArray)) (wb0.heap.size + 1) 30 Z) := (Blk.at_new _ _ 30 _ _ HZ'.out (by simp)).rowFar (by omega) _
  have hs4 := Wwb0.out.size
  go_upto_region 6 with (first
    | (with_reducible refine storeAll_law rfl 28 (.tmp 8) (.tmp 19) rfl wb0.heap.size rfl k0 rfl 28 Z Z1.out IK0.out LZ0.out OK0.out ?_)
    | (with_reducible refine storeAll_law rfl 30 (.tmp 9) (.tmp 22) rfl (wb0.heap.size + 1) rfl k0 rfl 30 Z Z2.out JK0.out LZ0.out OK0.out ?_))
  have KB0 := Lib.hid ((Z1.out.row (cs' := k0)).rowFar (show wb0.heap.size ≠ wb0.heap.size + 1 by omega) k0.toArray)
  have RB0 := Lib.hid (Z2.out.row (cs' := k0))
  have Xwz0 : Hid (Below wb0.heap.size wb0 ((((wb0.alloc (.cells Tryd.zeroCells28 28)).alloc (.cells Tryd.zeroCells30 30)).setRow wb0.heap.size k0.toArray).setRow (wb0.heap.size + 1) k0.toArray)) := below_setRow (below_setRow (((Below.refl _ _).alloc (Nat.le_refl _) _).alloc (by simp) _) (Nat.le_refl _) _) (by omega) _
  have Wwz0 := Lib.hid (Wwb0.out.trans (Xwz0.out.mono Wwb0.out.size))
  replace RA := Lib.hid (RA.out.below Xwz0.out)
  clear Z1 Z2 Xwz0
  generalize (((wb0.alloc (.cells Tryd.zeroCells28 28)).alloc (.cells Tryd.zeroCells30 30)).setRow wb0.heap.size k0.toArray).setRow (wb0.heap.size + 1) k0.toArray = wz0 at *
  obtain ⟨g0, hg0⟩ : ∃ g, g = wb0.heap.size := ⟨_, rfl⟩
  rw [← hg0] at KB0 RB0 hs4
  rw [← hg0]
  clear hg0 hs4
  go_wp2_with fail
  refine (CK1.out wz0 (HG.out.below Wwz0.out hsz) RA.out).mono ?_
  rintro e wa1 ⟨rfl, hY⟩
  have Wwa1 := Lib.hid (Wwz0.out.trans (hY.mono Wwz0.out.size))
  replace RA := Lib.hid (RA.out.below hY)
  replace KB0 := Lib.hid (KB0.out.below hY KB0.out.lt)
  replace RB0 := Lib.hid (RB0.out.below hY RB0.out.lt)
  clear hY CK1
  go_wp2_with fail
  refine (RK1.out wa1 RA.out).mono ?_
  rintro e wb1 ⟨rfl, hY⟩
  have Wwb1 := Lib.hid (Wwa1.out.trans (hY.mono Wwa1.out.size))
  replace RA := Lib.hid (RA.out.below hY)
  replace KB0 := Lib.hid (KB0.out.below hY KB0.out.lt)
  replace RB0 := Lib.hid (RB0.out.below hY RB0.out.lt)
  clear hY RK1
  have Z1 : Hid (Blk ((wb1.alloc (.cells Tryd.zeroCells28 28)).alloc (.cells Tryd.zeroCells30 30)) wb1.heap.size 28 Z) := (Blk.at_new _ _ 28 _ _ HZ.out rfl).alloc _
  have Z2 : Hid (Blk ((((wb1.alloc (.cells Tryd.zeroCells28 28)).alloc (.cells Tryd.zeroCells30 30)).setRow wb1.heap.size k1.toArray)) (wb1.heap.size + 1) 30 Z) := (Blk.at_new _ _ 30 _ _ HZ'.out (by simp)).rowFar (by omega) _
  have hs4 := Wwb1.out.size
  go_upto_region 7 with (first
    | (with_reducible refine storeAll_law rfl 28 (.tmp 10) (.tmp 25) rfl wb1.heap.size rfl k1 rfl 28 Z Z1.out IK1.out LZ1.out OK1.out ?_)
    | (with_reducible refine storeAll_law rfl 30 (.tmp 11) (.tmp 28) rfl (wb1.heap.size + 1) rfl k1 rfl 30 Z Z2.out JK1.out LZ1.out OK1.out ?_))
  have KB1 := Lib.hid ((Z1.out.row (cs' := k1)).rowFar (show wb1.heap.size ≠ wb1.heap.size + 1 by omega) k1.toArray)
  have RB1 := Lib.hid (Z2.out.row (cs' := k1))
  have Xwz1 : Hid (Below wb1.heap.size wb1 ((((wb1.alloc (.cells Tryd.zeroCells28 28)).alloc (.cells Tryd.zeroCells30 30)).setRow wb1.heap.size k1.toArray).setRow (wb1.heap.size + 1) k1.toArray)) := below_setRow (below_setRow (((Below.refl _ _).alloc (Nat.le_refl _) _).alloc (by simp) _) (Nat.le_refl _) _) (by omega) _
  have Wwz1 := Lib.hid (Wwb1.out.trans (Xwz1.out.mono Wwb1.out.size))
  replace RA := Lib.hid (RA.out.below Xwz1.out)
  replace KB0 := Lib.hid (KB0.out.below Xwz1.out KB0.out.lt)
  replace RB0 := Lib.hid (RB0.out.below Xwz1.out RB0.out.lt)
  clear Z1 Z2 Xwz1
  generalize (((wb1.alloc (.cells Tryd.zeroCells28 28)).alloc (.cells Tryd.zeroCells30 30)).setRow wb1.heap.size k1.toArray).setRow (wb1.heap.size + 1) k1.toArray = wz1 at *
  obtain ⟨g1, hg1⟩ : ∃ g, g = wb1.heap.size := ⟨_, rfl⟩
  rw [← hg1] at KB1 RB1 hs4
  rw [← hg1]
  clear hg1 hs4
  have F000 : Hid (∀ j v, a0[j]? = some v → wz1.cell? ⟨g0, 0 + j, none⟩ = some v) := Blk.front (b := km ++ kl) (by rw [← List.append_assoc, ← HK0.out]; exact KB0.out)
  have F001 : Hid (∀ j v, a0[j]? = some v → wz1.cell? ⟨g0 + 1, 0 + j, none⟩ = some v) := Blk.front (b := km ++ kl) (by rw [← List.append_assoc, ← HK0.out]; exact RB0.out)
  have F010 : Hid (∀ j v, km[j]? = some v → wz1.cell? ⟨g0, 32 + j, none⟩ = some v) := Blk.part (c := kl) (by rw [← HK0.out]; exact KB0.out) LA0.out
  have F011 : Hid (∀ j v, km[j]? = some v → wz1.cell? ⟨g0 + 1, 32 + j, none⟩ = some v) := Blk.part (c := kl) (by rw [← HK0.out]; exact RB0.out) LA0.out
  have F020 : Hid (∀ j v, kl[j]? = some v → wz1.cell? ⟨g0, 64 + j, none⟩ = some v) := Blk.part (a := a0 ++ km) (c := []) (by rw [List.append_nil, ← HK0.out]; exact KB0.out) (by rw [List.length_append, LA0.out, LKM.out])
  have F021 : Hid (∀ j v, kl[j]? = some v → wz1.cell? ⟨g0 + 1, 64 + j, none⟩ = some v) := Blk.part (a := a0 ++ km) (c := []) (by rw [List.append_nil, ← HK0.out]; exact RB0.out) (by rw [List.length_append, LA0.out, LKM.out])
  have F100 : Hid (∀ j v, a1[j]? = some v → wz1.cell? ⟨g1, 0 + j, none⟩ = some v) := Blk.front (b := km ++ kl) (by rw [← List.append_assoc, ← HK1.out]; exact KB1.out)
  have F101 : Hid (∀ j v, a1[j]? = some v → wz1.cell? ⟨g1 + 1, 0 + j, none⟩ = some v) := Blk.front (b := km ++ kl) (by rw [← List.append_assoc, ← HK1.out]; exact RB1.out)
  have F110 : Hid (∀ j v, km[j]? = some v → wz1.cell? ⟨g1, 32 + j, none⟩ = some v) := Blk.part (c := kl) (by rw [← HK1.out]; exact KB1.out) LA1.out
  have F111 : Hid (∀ j v, km[j]? = some v → wz1.cell? ⟨g1 + 1, 32 + j, none⟩ = some v) := Blk.part (c := kl) (by rw [← HK1.out]; exact RB1.out) LA1.out
  have F120 : Hid (∀ j v, kl[j]? = some v → wz1.cell? ⟨g1, 64 + j, none⟩ = some v) := Blk.part (a := a1 ++ km) (c := []) (by rw [List.append_nil, ← HK1.out]; exact KB1.out) (by rw [List.length_append, LA1.out, LKM.out])
  have F121 : Hid (∀ j v, kl[j]? = some v → wz1.cell? ⟨g1 + 1, 64 + j, none⟩ = some v) := Blk.part (a := a1 ++ km) (c := []) (by rw [List.append_nil, ← HK1.out]; exact RB1.out) (by rw [List.length_append, LA1.out, LKM.out])
  have q0 := Q0.out
  have q1 := Q1.out
  have q2 := Q2.out
  have q3 := Q3.out
  go_wp2_with (first
    | ((with_reducible refine loadW_law ?gd 26 (.tmp 29) rfl g0 0 ?hx a0 _ Tryd.underlying26 rfl IA0.out F000.out ?_); (case gd => rfl); (case hx => rfl))
    | ((with_reducible refine loadW_law ?gd 26 (.tmp 31) rfl (g0 + 1) 0 ?hx a0 _ Tryd.underlying26 rfl IA0.out F001.out ?_); (case gd => rfl); (case hx => rfl))
    | ((with_reducible refine loadW_law ?gd 26 (.tmp 35) rfl g0 32 ?hx km _ Tryd.underlying26 rfl IKM.out F010.out ?_); (case gd => rfl); (case hx => rfl))
    | ((with_reducible refine loadW_law ?gd 26 (.tmp 37) rfl (g0 + 1) 32 ?hx km _ Tryd.underlying26 rfl IKM.out F011.out ?_); (case gd => rfl); (case hx => rfl))
    | ((with_reducible refine loadW_law ?gd 26 (.tmp 42) rfl g0 64 ?hx kl _ Tryd.underlying26 rfl IKL.out F020.out ?_); (case gd => rfl); (case hx => rfl))
    | ((with_reducible refine loadW_law ?gd 26 (.tmp 44) rfl (g0 + 1) 64 ?hx kl _ Tryd.underlying26 rfl IKL.out F021.out ?_); (case gd => rfl); (case hx => rfl))
    | ((with_reducible refine loadW_law ?gd 26 (.tmp 49) rfl g1 0 ?hx a1 _ Tryd.underlying26 rfl IA1.out F100.out ?_); (case gd => rfl); (case hx => rfl))
    | ((with_reducible refine loadW_law ?gd 26 (.tmp 51) rfl (g1 + 1) 0 ?hx a1 _ Tryd.underlying26 rfl IA1.out F101.out ?_); (case gd => rfl); (case hx => rfl))
    | ((with_reducible refine loadW_law ?gd 26 (.tmp 56) rfl g1 32 ?hx km _ Tryd.underlying26 rfl IKM.out F110.out ?_); (case gd => rfl); (case hx => rfl))
    | ((with_reducible refine loadW_law ?gd 26 (.tmp 58) rfl g0 32 ?hx km _ Tryd.underlying26 rfl IKM.out F010.out ?_); (case gd => rfl); (case hx => rfl))
    | ((with_reducible refine loadW_law ?gd 26 (.tmp 63) rfl g1 64 ?hx kl _ Tryd.underlying26 rfl IKL.out F120.out ?_); (case gd => rfl); (case hx => rfl))
    | ((with_reducible refine loadW_law ?gd 26 (.tmp 65) rfl g0 64 ?hx kl _ Tryd.underlying26 rfl IKL.out F020.out ?_); (case gd => rfl); (case hx => rfl)))
  go_ret
  exact ⟨rfl, Wwz1.out⟩
end Go.Proofs.YtijncclcdkgaoaaDoor.keysAll
