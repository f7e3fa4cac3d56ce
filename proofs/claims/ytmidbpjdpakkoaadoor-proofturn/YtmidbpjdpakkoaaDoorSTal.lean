import Derived.Test.YtmidbpjdpakkoaaDoorSPq6
namespace Go.Proofs.YtmidbpjdpakkoaaDoor
set_option linter.unusedVariables false
set_option linter.unusedSimpArgs false
set_option maxRecDepth 100000
open Go.RowKit
set_option maxRecDepth 100000 in
set_option maxHeartbeats 1000000 in
theorem alike_any {w : World} (hg : Gl w) {x : Value} {p : Tm.Prf} (hp : PrfIn w x p) {r0 k s : List UInt8} (hr0 : r0.length = 32) (hk : k.length = 32) (hs : s.length = 32) : Calls Tryd.prog 32 #[hv r0, hv k, hv s, x] w fun e w' => e = .returned (.bool true) ∧ Below w.heap.size w w' := by
  obtain ⟨A0, n, c, hx, hr, _⟩ := hp.at_
  have h1 := told_length hp.sum r0 k
  have h2 := after_length p r0 k s
  have ea := fun W => hash_eq (p.told r0 k) (p.told r0 k) h1 h1 W
  have eb := fun W => hash_eq (p.after r0 k s) (p.after r0 k s) h2 h2 W
  rw [decide_eq_true rfl] at ea eb
  have CA : Hid (∀ W, Below w.heap.size w W → Calls Tryd.prog 29 #[hv r0, hv k, x] W (ChkR W (p.told r0 k) (p.holds r0 k && p.there k) (p.holds r0 k))) := fun W h => pcheck_any (hg.below h hg.size) (hp.below h) hr0 hk
  have CB : Hid (∀ W, Below w.heap.size w W → Calls Tryd.prog 23 #[hv r0, hv k, x] W (ChkR W (p.told r0 k) (p.holds r0 k && p.there k) (p.holds r0 k))) := fun W h => rcheck_any (hp.below h) hr0 hk
  have CC : Hid (∀ W, Below w.heap.size w W → Calls Tryd.prog 30 #[hv r0, hv k, hv s, x] W fun e w' => e = .returned (.tuple #[hv (p.after r0 k s), .bool (p.holds r0 k)]) ∧ Below W.heap.size W w') := fun W h => pafter_any (hg.below h hg.size) (hp.below h) hr0 hk hs
  have CD : Hid (∀ W, Below w.heap.size w W → Calls Tryd.prog 49 #[hv r0, hv k, hv s, x] W fun e w' => e = .returned (.tuple #[hv (p.after r0 k s), .bool (p.holds r0 k)]) ∧ Below W.heap.size W w') := fun W h => rafter_any (hp.below h) hr0 hk hs
  have IR := Lib.hid (hash_info hr0)
  have IK := Lib.hid (hash_info hk)
  have IS := Lib.hid (hash_info hs)
  have IA := Lib.hid (hash_info h1)
  have IB := Lib.hid (hash_info h2)
  have OA := Lib.hid (cells_u8 (p.told r0 k))
  have OB := Lib.hid (cells_u8 (p.after r0 k s))
  have LA : Hid ((List.replicate 32 (Value.int .u8 0)).length = ((p.told r0 k).map cellOf).length) := by unfold Hid; rw [List.length_map, h1]; rfl
  have LB : Hid ((List.replicate 32 (Value.int .u8 0)).length = ((p.after r0 k s).map cellOf).length) := by unfold Hid; rw [List.length_map, h2]; rfl
  obtain ⟨PP, hPP⟩ : ∃ L, L = proofL (.slice A0 n c) p.has (p.lab.map cellOf) (p.sum.map cellOf) := ⟨_, rfl⟩
  have IP : Hid ((Tryd.prog.info? 38).map (·.size) = some PP.length) := by unfold Hid; rw [hPP]; exact proofL_info (by simpa using hp.lab) (by simpa using hp.sum)
  rw [← hPP] at hx
  subst hx
  obtain ⟨w0, hw0⟩ : ∃ w0, w0 = (((w.alloc (.cells (r0.map cellOf).toArray 30)).alloc (.cells (k.map cellOf).toArray 30)).alloc (.cells (s.map cellOf).toArray 30)).alloc (.cells PP.toArray 38) := ⟨_, rfl⟩
  have Xw0 : Hid (Below w.heap.size w w0) := by unfold Hid; rw [hw0]; exact ((((Below.refl _ _).alloc (Nat.le_refl _) _).alloc (by simp) _).alloc (by simp; omega) _).alloc (by simp; omega) _
  have BRw0 : Hid (Blk w0 w.heap.size 30 (r0.map cellOf)) := by unfold Hid; rw [hw0]; exact (((Blk.new w 30 _).alloc _).alloc _).alloc _
  have BKw0 : Hid (Blk w0 (w.heap.size + 1) 30 (k.map cellOf)) := by unfold Hid; rw [hw0]; exact ((Blk.at_new _ _ 30 _ _ rfl (by simp)).alloc _).alloc _
  have BSw0 : Hid (Blk w0 (w.heap.size + 1 + 1) 30 (s.map cellOf)) := by unfold Hid; rw [hw0]; exact (Blk.at_new _ _ 30 _ _ rfl (by simp)).alloc _
  have BPw0 : Hid (Blk w0 (w.heap.size + 1 + 1 + 1) 38 PP) := by unfold Hid; rw [hw0]; exact Blk.at_new _ _ 38 _ _ rfl (by simp)
  have ZB0 : Hid (∀ W : World, Blk (W.alloc (.cells (List.replicate 32 (Value.int .u8 0)).toArray 30)) W.heap.size 30 (List.replicate 32 (Value.int .u8 0))) := fun W => Blk.new W 30 _
  obtain ⟨Z, hZ⟩ : ∃ Z, Z = (List.replicate 32 (Value.int .u8 0)) := ⟨_, rfl⟩
  rw [← hZ] at LA LB
  have ZB : Hid (∀ W : World, Blk (W.alloc (.cells (List.replicate 32 (Value.int .u8 0)).toArray 30)) W.heap.size 30 Z) := fun W => by rw [hZ]; exact ZB0.out W
  clear ZB0 hZ
  obtain ⟨has, hh⟩ : ∃ b, b = (p.holds r0 k && p.there k) := ⟨_, rfl⟩
  obtain ⟨ok, ho⟩ : ∃ b, b = p.holds r0 k := ⟨_, rfl⟩
  rw [← hh, ← ho] at CA CB
  rw [← ho] at CC CD
  unfold ChkR hv at CA CB
  unfold hv at CC CD ⊢
  obtain ⟨RC, hRC⟩ : ∃ L, L = r0.map cellOf := ⟨_, rfl⟩
  obtain ⟨KC, hKC⟩ : ∃ L, L = k.map cellOf := ⟨_, rfl⟩
  obtain ⟨SC, hSC⟩ : ∃ L, L = s.map cellOf := ⟨_, rfl⟩
  obtain ⟨A, hA⟩ : ∃ L, L = (p.told r0 k).map cellOf := ⟨_, rfl⟩
  obtain ⟨B, hB⟩ : ∃ L, L = (p.after r0 k s).map cellOf := ⟨_, rfl⟩
  rw [← hRC] at CA CB CC CD IR BRw0 hw0 ⊢
  rw [← hKC] at CA CB CC CD IK BKw0 hw0 ⊢
  rw [← hSC] at CC CD IS BSw0 hw0 ⊢
  rw [← hA] at CA CB ea IA OA LA
  rw [← hB] at CC CD eb IB OB LB
  clear hh ho hPP hRC hKC hSC hA hB h1 h2 hr hp hg hr0 hk hs
  go_enter Tryd.func32, Tryd.ntmps32
  go_upto_region 1 with (fail)
  change Code.wp _ _ _ _ ((((w.alloc (.cells RC.toArray 30)).alloc (.cells KC.toArray 30)).alloc (.cells SC.toArray 30)).alloc (.cells PP.toArray 38))
  rw [← hw0]
  clear hw0
  go_upto_region 2 with (first
    | (with_reducible refine load_law rfl 30 (.tmp 4) rfl (w.heap.size) 0 rfl RC _ Tryd.underlying30 rfl IR.out BRw0.out.cells ?_)
    | (with_reducible refine load_law rfl 30 (.tmp 5) rfl (w.heap.size + 1) 0 rfl KC _ Tryd.underlying30 rfl IK.out BKw0.out.cells ?_)
    | (with_reducible refine load_law rfl 38 (.tmp 7) rfl (w.heap.size + 1 + 1 + 1) 0 rfl PP _ Tryd.underlying38 rfl IP.out BPw0.out.cells ?_)
    | (go_at_call 29; refine (CA.out w0 Xw0.out).mono ?_; rintro e w1 ⟨rfl, hX⟩; have Yw1 := Lib.hid hX; have hnw1 := Nat.le_refl w1.heap.size; clear hX)
    | ((with_reducible refine storeGen_law rfl 30 (.tmp 9) (.tmp 24) rfl w1.heap.size rfl A rfl 30 Z IA.out LA.out OA.out w1.heap.size w1 ?_ ?_ hnw1 ?_)
       · exact ZB.out w1
       · exact alloc_below w1 _
       intro w2 Nw2 Vw2))
  have Zw2 := Lib.hid (Yw1.out.trans (Vw2.out.mono Yw1.out.size))
  have BRw2 := Lib.hid (BRw0.out.below Zw2.out BRw0.out.lt)
  have BKw2 := Lib.hid (BKw0.out.below Zw2.out BKw0.out.lt)
  have BSw2 := Lib.hid (BSw0.out.below Zw2.out BSw0.out.lt)
  have BPw2 := Lib.hid (BPw0.out.below Zw2.out BPw0.out.lt)
  have Xw2 := Lib.hid (Xw0.out.trans (Zw2.out.mono Xw0.out.size))
  clear Yw1 Vw2 Zw2 CA BRw0 BKw0 BSw0 BPw0 Xw0 hnw1
  have N1w2 := Nw2
  clear Nw2
  go_upto_region 3 with (first
    | (with_reducible refine load_law rfl 30 (.tmp 4) rfl (w.heap.size) 0 rfl RC _ Tryd.underlying30 rfl IR.out BRw2.out.cells ?_)
    | (with_reducible refine load_law rfl 30 (.tmp 5) rfl (w.heap.size + 1) 0 rfl KC _ Tryd.underlying30 rfl IK.out BKw2.out.cells ?_)
    | (with_reducible refine load_law rfl 38 (.tmp 7) rfl (w.heap.size + 1 + 1 + 1) 0 rfl PP _ Tryd.underlying38 rfl IP.out BPw2.out.cells ?_)
    | (go_at_call 23; refine (CB.out w2 Xw2.out).mono ?_; rintro e w3 ⟨rfl, hX⟩; have Yw3 := Lib.hid hX; have hnw3 := Nat.le_refl w3.heap.size; clear hX)
    | ((with_reducible refine storeGen_law rfl 30 (.tmp 12) (.tmp 32) rfl w3.heap.size rfl A rfl 30 Z IA.out LA.out OA.out w3.heap.size w3 ?_ ?_ hnw3 ?_)
       · exact ZB.out w3
       · exact alloc_below w3 _
       intro w4 Nw4 Vw4))
  have Zw4 := Lib.hid (Yw3.out.trans (Vw4.out.mono Yw3.out.size))
  have BRw4 := Lib.hid (BRw2.out.below Zw4.out BRw2.out.lt)
  have BKw4 := Lib.hid (BKw2.out.below Zw4.out BKw2.out.lt)
  have BSw4 := Lib.hid (BSw2.out.below Zw4.out BSw2.out.lt)
  have BPw4 := Lib.hid (BPw2.out.below Zw4.out BPw2.out.lt)
  have N1w4 := Lib.hid (N1w2.out.below Zw4.out N1w2.out.lt)
  have Xw4 := Lib.hid (Xw2.out.trans (Zw4.out.mono Xw2.out.size))
  clear Yw3 Vw4 Zw4 CB BRw2 BKw2 BSw2 BPw2 N1w2 Xw2 hnw3
  have N2w4 := Nw4
  clear Nw4
  go_upto_region 4 with (first
    | (with_reducible refine load_law rfl 30 (.tmp 4) rfl (w.heap.size) 0 rfl RC _ Tryd.underlying30 rfl IR.out BRw4.out.cells ?_)
    | (with_reducible refine load_law rfl 30 (.tmp 5) rfl (w.heap.size + 1) 0 rfl KC _ Tryd.underlying30 rfl IK.out BKw4.out.cells ?_)
    | (with_reducible refine load_law rfl 30 (.tmp 6) rfl (w.heap.size + 1 + 1) 0 rfl SC _ Tryd.underlying30 rfl IS.out BSw4.out.cells ?_)
    | (with_reducible refine load_law rfl 38 (.tmp 7) rfl (w.heap.size + 1 + 1 + 1) 0 rfl PP _ Tryd.underlying38 rfl IP.out BPw4.out.cells ?_)
    | (go_at_call 30; refine (CC.out w4 Xw4.out).mono ?_; rintro e w5 ⟨rfl, hX⟩; have Yw5 := Lib.hid hX; have hnw5 := Nat.le_refl w5.heap.size; clear hX)
    | ((with_reducible refine storeGen_law rfl 30 (.tmp 15) (.tmp 41) rfl w5.heap.size rfl B rfl 30 Z IB.out LB.out OB.out w5.heap.size w5 ?_ ?_ hnw5 ?_)
       · exact ZB.out w5
       · exact alloc_below w5 _
       intro w6 Nw6 Vw6))
  have Zw6 := Lib.hid (Yw5.out.trans (Vw6.out.mono Yw5.out.size))
  have BRw6 := Lib.hid (BRw4.out.below Zw6.out BRw4.out.lt)
  have BKw6 := Lib.hid (BKw4.out.below Zw6.out BKw4.out.lt)
  have BSw6 := Lib.hid (BSw4.out.below Zw6.out BSw4.out.lt)
  have BPw6 := Lib.hid (BPw4.out.below Zw6.out BPw4.out.lt)
  have N1w6 := Lib.hid (N1w4.out.below Zw6.out N1w4.out.lt)
  have N2w6 := Lib.hid (N2w4.out.below Zw6.out N2w4.out.lt)
  have Xw6 := Lib.hid (Xw4.out.trans (Zw6.out.mono Xw4.out.size))
  clear Yw5 Vw6 Zw6 CC BRw4 BKw4 BSw4 BPw4 N1w4 N2w4 Xw4 hnw5
  have N3w6 := Nw6
  clear Nw6
  go_upto_region 5 with (first
    | (with_reducible refine load_law rfl 30 (.tmp 4) rfl (w.heap.size) 0 rfl RC _ Tryd.underlying30 rfl IR.out BRw6.out.cells ?_)
    | (with_reducible refine load_law rfl 30 (.tmp 5) rfl (w.heap.size + 1) 0 rfl KC _ Tryd.underlying30 rfl IK.out BKw6.out.cells ?_)
    | (with_reducible refine load_law rfl 30 (.tmp 6) rfl (w.heap.size + 1 + 1) 0 rfl SC _ Tryd.underlying30 rfl IS.out BSw6.out.cells ?_)
    | (with_reducible refine load_law rfl 38 (.tmp 7) rfl (w.heap.size + 1 + 1 + 1) 0 rfl PP _ Tryd.underlying38 rfl IP.out BPw6.out.cells ?_)
    | (go_at_call 49; refine (CD.out w6 Xw6.out).mono ?_; rintro e w7 ⟨rfl, hX⟩; have Yw7 := Lib.hid hX; have hnw7 := Nat.le_refl w7.heap.size; clear hX)
    | ((with_reducible refine storeGen_law rfl 30 (.tmp 17) (.tmp 49) rfl w7.heap.size rfl B rfl 30 Z IB.out LB.out OB.out w7.heap.size w7 ?_ ?_ hnw7 ?_)
       · exact ZB.out w7
       · exact alloc_below w7 _
       intro w8 Nw8 Vw8))
  have Zw8 := Lib.hid (Yw7.out.trans (Vw8.out.mono Yw7.out.size))
  have BRw8 := Lib.hid (BRw6.out.below Zw8.out BRw6.out.lt)
  have BKw8 := Lib.hid (BKw6.out.below Zw8.out BKw6.out.lt)
  have BSw8 := Lib.hid (BSw6.out.below Zw8.out BSw6.out.lt)
  have BPw8 := Lib.hid (BPw6.out.below Zw8.out BPw6.out.lt)
  have N1w8 := Lib.hid (N1w6.out.below Zw8.out N1w6.out.lt)
  have N2w8 := Lib.hid (N2w6.out.below Zw8.out N2w6.out.lt)
  have N3w8 := Lib.hid (N3w6.out.below Zw8.out N3w6.out.lt)
  have Xw8 := Lib.hid (Xw6.out.trans (Zw8.out.mono Xw6.out.size))
  clear Yw7 Vw8 Zw8 CD BRw6 BKw6 BSw6 BPw6 N1w6 N2w6 N3w6 Xw6 hnw7
  have N4w8 := Nw8
  clear Nw8 BRw8 BKw8 BSw8 BPw8
  go_upto_if 1 with (first
    | (with_reducible refine load_law rfl 30 (.tmp 9) rfl w1.heap.size 0 rfl A _ Tryd.underlying30 rfl IA.out N1w8.out.cells ?_)
    | (with_reducible refine load_law rfl 30 (.tmp 12) rfl w3.heap.size 0 rfl A _ Tryd.underlying30 rfl IA.out N2w8.out.cells ?_)
    | (with_reducible refine load_when (by kernel_rfl) 30 (.tmp 15) rfl w5.heap.size 0 rfl B _ Tryd.underlying30 rfl IB.out N3w8.out.cells ?_)
    | (with_reducible refine load_when (by kernel_rfl) 30 (.tmp 17) rfl w7.heap.size 0 rfl B _ Tryd.underlying30 rfl IB.out N4w8.out.cells ?_))
  go_wp2_with fail
  go_ret
  exact ⟨rfl, Xw8.out⟩
end Go.Proofs.YtmidbpjdpakkoaaDoor
