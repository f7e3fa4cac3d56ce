/- Contracts of what package aead's tag stands on: eight, noughts, the library's Grow and Concat, and Xor's answer as a row of its own. -/
import Derived.Test.YtpbfeobifpmjbaaDoorAe
import Derived.Test.YtpbfeobifpmjbaaDoorGref2
import Derived.Test.YtpbfeobifpmjbaaDoorGrow
import Derived.Test.YtpbfeobifpmjbaaDoorGcha
import Derived.Test.YtpbfeobifpmjbaaDoorGtag
namespace Go.Proofs.YtpbfeobifpmjbaaDoor
set_option linter.unusedVariables false
set_option linter.unusedSimpArgs false
set_option maxRecDepth 100000
open Go.RowKit

theorem outC_own {w : World} {g n B : Nat} {l : List UInt8} (hb : Blk w g 5 (outC l n)) (hl : l.length = n) (hm : n ≤ 1000000) (hB : B ≤ g) : Ow w B (.slice (some ⟨g, 0, none⟩) n n) l := by
  subst hl
  refine ⟨by simp, .inr ⟨g, l.length, (outC l l.length).toArray, rfl, hB, hb, Nat.le_refl _, by unfold maxLen; omega, by simp [outC_length], ?_⟩⟩
  rw [out_end l l.length (Nat.le_refl _)]
  simp [List.take_of_length_le]
/-- The front of a row that is owned: nothing of it, all its room. -/
theorem Ow.front {w : World} {B g n c : Nat} {l : List UInt8} (h : Ow w B (.slice (some ⟨g, 0, none⟩) n c) l) : Ow w B (.slice (some ⟨g, 0, none⟩) 0 c) [] := by
  rcases h.2 with ⟨h', _⟩ | ⟨g', cap', cur, h', hb, hg, hnc, hcm, hcs, htake⟩
  · simp at h'
  · simp only [Value.slice.injEq, Option.some.injEq, Addr.mk.injEq, and_true, true_and] at h'
    obtain ⟨rfl, _, rfl⟩ := h'
    exact ⟨by simp, .inr ⟨g, c, cur, rfl, hb, hg, Nat.zero_le _, hcm, hcs, by simp⟩⟩
theorem cut_none (W : World) : (Instr.slice 28 (.slice none 0 0) none (some (.int .i64 0)) none).run Tryd.prog W = .ok (.slice none 0 0) W := by
  have := slice_h none 0 0 0 (Nat.le_refl _) W
  simpa [cutA] using this
theorem cut_front (g n c : Nat) (W : World) : (Instr.slice 28 (.slice (some ⟨g, 0, none⟩) n c) none (some (.int .i64 0)) none).run Tryd.prog W = .ok (.slice (some ⟨g, 0, none⟩) 0 c) W := by
  have := slice_h (some ⟨g, 0, none⟩) n c 0 (Nat.zero_le _) W
  have e : cutA (some ⟨g, 0, none⟩) c 0 = some ⟨g, 0, none⟩ := by
    unfold cutA
    split
    · rfl
    · simp [add_plain]
  rw [e] at this
  exact this

set_option maxRecDepth 100000 in
set_option maxHeartbeats 2000000 in
theorem eight_any (n : Nat) (w : World) (hn : n ≤ 1000000000) : Calls Tryd.prog 58 #[.int .i64 (n : Int)] w fun e w' => ∃ g, e = .returned (.slice (some ⟨g, 0, none⟩) 8 8) ∧ Rd w' (some ⟨g, 0, none⟩) 8 8 (Pol.bytesN 8 (n : Int)) ∧ Below w.heap.size w w' := by
  have hmk : ∀ W : World, (Instr.makeSlice 28 (.int .i64 8) (.int .i64 8)).run Tryd.prog W = .ok (.slice (some ⟨W.heap.size, 0, none⟩) 8 8) (W.alloc (.cells (outC [] 8).toArray 5)) := fun W => make_bytes 8 (by omega) W
  go_enter Tryd.func58, Tryd.ntmps58
  go_wp2_with fail
  clear hmk
  go_loopw [8] (fun i wr => ∃ k : Nat, k ≤ 8 ∧ i = .int .i64 k ∧ Hid (Blk wr w.heap.size 5 (outC (Pol.bytesN k (n : Int)) 8)) ∧ Hid (Below w.heap.size w wr)) (fun i _ => 8 - (intOf i).toNat)
  case atStart => exact ⟨0, by omega, rfl, Blk.at_new _ _ 5 _ _ rfl rfl, (Below.refl _ _).alloc (Nat.le_refl _) _⟩
  case round =>
    obtain ⟨k, hk, rfl, B2, BW⟩ := hrel
    by_cases hlt : k < 8
    · have hlb : decide ((k : Int) < 8) = true := by simp; omega
      obtain ⟨y, hy⟩ : ∃ y : UInt8, y = Sha.by8 ((n : Int) / 256 ^ k) := ⟨_, rfl⟩
      have HN : Hid (Pol.bytesN (k + 1) (n : Int) = Pol.bytesN k (n : Int) ++ [y]) := by unfold Hid; rw [Pol.bytesN_succ, hy]
      have hL : (Pol.bytesN k (n : Int)).length = k := Pol.bytesN_length _ _
      have c0 : wr.cell? ⟨w.heap.size, k, none⟩ = some (.int .u8 0) := by rw [B2.out.cell]; exact outC_at _ 8 k hL hlt
      have f0 : wr.frozen? ⟨w.heap.size, k, none⟩ = false := B2.out.frozen _
      have B4 : Hid (Blk (wr.setCell ⟨w.heap.size, k, none⟩ (.int .u8 (y.toNat : Int))) w.heap.size 5 (outC (Pol.bytesN (k + 1) (n : Int)) 8)) := by
        have := B2.out.set_ k (cellOf y)
        rw [outC_set _ 8 k _ hL hlt, ← HN.out] at this
        exact this
      have hsh : (n : Int) / 2 ^ (8 * k) % 256 = (y.toNat : Int) := by rw [hy, Pol.by8_toNat, Int.pow_mul]; rfl
      have hm8 : ((8 * (k : Int)).toNat) = 8 * k := by omega
      clear hy hL
      go_wp2_with fail
      clear c0 f0 hsh
      go_roundw
      case rel => exact ⟨k + 1, by omega, by go_num, B4, BW.out.setCell (by simp) _⟩
      case measure => simp [intOf]; omega
    · obtain rfl : k = 8 := by omega
      rw [show ((8 : Nat) : Int) = 8 from rfl]
      have HRR := Lib.hid (outC_rd B2.out (Pol.bytesN_length 8 (n : Int)) (by omega))
      clear B2
      go_wp2_with fail
      go_ret
      exact ⟨_, rfl, HRR.out, BW.out⟩

set_option maxRecDepth 100000 in
set_option maxHeartbeats 2000000 in
theorem noughts_any (n : Nat) (w : World) (hn : n ≤ 1000000000) : Calls Tryd.prog 57 #[.int .i64 (n : Int)] w fun e w' => ∃ g, e = .returned (.slice (some ⟨g, 0, none⟩) (Ae.gap n) (Ae.gap n)) ∧ Rd w' (some ⟨g, 0, none⟩) (Ae.gap n) (Ae.gap n) (List.replicate (Ae.gap n) 0) ∧ Below w.heap.size w w' := by
  obtain ⟨z, hz⟩ : ∃ z, z = Ae.gap n := ⟨_, rfl⟩
  rw [← hz]
  obtain ⟨r, hr⟩ : ∃ r, r = n % 16 := ⟨_, rfl⟩
  have hr16 : r < 16 := by omega
  have e1 : (n : Int) % 16 = (r : Int) := by omega
  have e2 : (16 - (r : Int)) % 16 = (z : Int) := by rw [hz]; unfold Ae.gap; omega
  have e3 : (16 - (r : Int)).tmod 16 = (z : Int) := by rw [Int.tmod_eq_emod_of_nonneg (by omega)]; exact e2
  have hz16 : z < 16 := by omega
  have hmk := fun W => make_bytes z (by omega) W
  clear hz hr
  go_enter Tryd.func57, Tryd.ntmps57
  go_wp2_with fail
  go_ret
  refine ⟨_, rfl, Rd.of_block (Blk.new w 5 (outC [] z)) (by simp) (Nat.le_refl _) (by unfold maxLen; omega) (fun j hj => ?_), (Below.refl _ _).alloc (Nat.le_refl _) _⟩
  simp [outC, hj, cellOf]

set_option maxRecDepth 100000 in
set_option maxHeartbeats 2000000 in
theorem grow_any (n : Nat) (w : World) (h0 : 0 < n) (hn : n ≤ 900000) : Calls Tryd.prog 82 #[.slice none 0 0, .int .i64 (n : Int)] w fun e w' => ∃ v, e = .returned v ∧ Ow w' w.heap.size v [] ∧ Below w.heap.size w w' := by
  have b1 : decide ((n : Int) < 0) = false := by simp
  have b2 : decide ((0 : Int) < (n : Int)) = true := by simp; omega
  have hc1 := fun W => cut_none W
  have hc2 := fun g c W => cut_front g n c W
  have E0 := Lib.hid (Ow.empty w w.heap.size)
  have LN0 : Hid (([] : List UInt8).length + n ≤ 1000000) := by unfold Hid; simp; omega
  go_enter Tryd.func82, Tryd.ntmps82
  go_wp2_with (first
    | (at_builtin; refine zeros_law rfl (.tmp 20) (.tmp 21) rfl rfl rfl E0.out LN0.out (Nat.le_refl _) (Below.refl _ _) ?_; intro v3 w3 O3 X3; obtain ⟨g, c, rfl, hgb, hgl⟩ := O3.out.form (by simp; omega); simp only [List.nil_append, List.length_replicate] at *))
  go_ret
  exact ⟨_, rfl, O3.out.front, X3.out⟩

set_option maxRecDepth 100000 in
set_option maxHeartbeats 2000000 in
theorem concat_any {w : World} {A : Option Addr} {n c : Nat} {ps : List (List UInt8)} (hr : RdP w A n ps) (hn : n ≤ 1000000) (h0 : 0 < ps.flatten.length) (hb : ps.flatten.length ≤ 900000) :
    Calls Tryd.prog 56 #[.slice A n c] w fun e w' => ∃ v, e = .returned v ∧ Ow w' w.heap.size v ps.flatten ∧ Below w.heap.size w w' := by
  have HR := Lib.hid hr
  clear hr
  go_enter Tryd.func56, Tryd.ntmps56
  go_wp2_with fail
  go_loopw [3, 11] (fun s i wr => ∃ (k z : Nat), k ≤ n ∧ i = .int .i64 k ∧ s = .int .i64 z ∧ z ≤ 900000 ∧ Hid (z = (ps.take k).flatten.length) ∧ Hid (w = wr)) (fun _ i _ => n - (intOf i).toNat)
  case atStart => exact ⟨0, 0, by omega, rfl, rfl, by omega, by unfold Hid; simp, rfl⟩
  case round =>
    obtain ⟨k, z, hk, rfl, rfl, hz, HZ, HW⟩ := hrel
    have hw := HW.out
    subst hw
    clear HW
    by_cases hlt : k < n
    · have hlb : decide ((k : Int) < (n : Int)) = true := by simp; omega
      obtain ⟨b, off, A', n', c', rfl, hblt, hcell, hrd⟩ := HR.out.at_ k hlt
      have hlen := hrd.len
      have hfl := flat_len_take ps (k + 1)
      rw [flat_take ps k (by rw [HR.out.len]; exact hlt), List.length_append, ← HZ.out, hlen] at hfl
      have HZ2 : Hid (z + n' = (ps.take (k + 1)).flatten.length) := by unfold Hid; rw [flat_take ps k (by rw [HR.out.len]; exact hlt), List.length_append, ← HZ.out, hlen]
      have hneg : decide ((z : Int) + (n' : Int) < 0) = false := by simp; omega
      clear hrd hlen
      go_wp2_with fail
      go_roundw
      case rel => exact ⟨k + 1, z + n', by omega, by go_num, by go_num, by omega, HZ2, (show Hid True from trivial)⟩
      case measure => simp [intOf]; omega
    · obtain rfl : k = n := by omega
      have hze : z = ps.flatten.length := by rw [HZ.out, List.take_of_length_le (by rw [HR.out.len]; omega)]
      have CG := Lib.hid (grow_any z w (by omega) (by omega))
      clear HZ hze
      go_wp2_with fail
      refine CG.out.mono ?_
      rintro e w1 ⟨v1, rfl, hO1, hX1⟩
      have O1 := Lib.hid hO1
      have X1 := Lib.hid hX1
      clear hO1 hX1 CG
      go_wp2_with fail
      go_loopw [6, 27] (fun v i wq => ∃ (j : Nat), j ≤ k ∧ i = .int .i64 j ∧ Hid (Ow wq w.heap.size v (ps.take j).flatten) ∧ Hid (Below w.heap.size w wq)) (fun _ i _ => k - (intOf i).toNat)
      case atStart => exact ⟨0, by omega, rfl, O1, X1⟩
      case round =>
        clear O1 X1
        obtain ⟨j, hj, rfl, O1, X1⟩ := hrel
        by_cases hjt : j < k
        · have hlb2 : decide ((j : Int) < (k : Int)) = true := by simp; omega
          obtain ⟨b, off, A', n', c', rfl, hblt, hcell, hrd⟩ := HR.out.at_ j hjt
          have c0 : wr.cell? ⟨b, off + j, none⟩ = some (.slice A' n' c') := (X1.out.cell (p := ⟨b, off + j, none⟩) hblt).trans hcell
          have RD := Lib.hid (hrd.below X1.out)
          have HF := Lib.hid (flat_take ps j (by rw [HR.out.len]; exact hjt))
          have LN : Hid ((ps.take j).flatten.length + n' ≤ 140737488355328) := by
            unfold Hid
            have h1 := flat_len_take ps (j + 1)
            rw [HF.out, List.length_append, hrd.len] at h1
            omega
          clear hcell hrd
          go_wp2_with (first
            | (at_builtin; refine onto_law rfl (.tmp 31) (.tmp 32) rfl rfl rfl RD.out O1.out LN.out X1.out.size X1.out ?_; intro v2 w2 O2 X2))
          rw [← HF.out] at O2
          clear c0
          go_roundw
          case rel => exact ⟨j + 1, by omega, by go_num, O2, X2⟩
          case measure => simp [intOf]; omega
        · obtain rfl : j = k := by omega
          rw [List.take_of_length_le (by rw [HR.out.len]; omega)] at O1
          go_wp2_with fail
          go_ret
          exact ⟨_, rfl, O1.out, X1.out⟩

set_option maxRecDepth 100000 in
set_option maxHeartbeats 2000000 in
theorem cxor_own (key nonce : List UInt8) (ctr : Int) {w : World} {A : Option Addr} {n c : Nat} {b : List UInt8} (hr : Rd w A n c b) (hn : n ≤ 100000) (hk : key.length = 32) (hnn : nonce.length = 12) (h0 : 0 ≤ ctr) (h1 : ctr < 4294967296) :
    Calls Tryd.prog 40 #[.agg (key.map cellOf).toArray, .int .u32 ctr, .agg (nonce.map cellOf).toArray, .slice A n c] w fun e w' => ∃ g, e = .returned (.slice (some ⟨g, 0, none⟩) n n) ∧ Ow w' w.heap.size (.slice (some ⟨g, 0, none⟩) n n) (Cha.xor key ctr nonce b) ∧ w.heap.size ≤ g ∧ Below w.heap.size w w' := by
  have HBL := Lib.hid (fun W x => cblock_any key nonce x W hk hnn)
  have HR := Lib.hid hr
  have HL := Lib.hid hr.len
  have HC0 := Lib.hid (ctr_zero ctr h0 h1)
  obtain ⟨kc, hkc⟩ : ∃ c, c = key.map cellOf := ⟨_, rfl⟩
  obtain ⟨nc, hnc⟩ : ∃ c, c = nonce.map cellOf := ⟨_, rfl⟩
  rw [← hkc, ← hnc] at HBL
  rw [← hkc, ← hnc]
  have hkl : kc.length = 32 := by rw [hkc, List.length_map, hk]
  have hnl : nc.length = 12 := by rw [hnc, List.length_map, hnn]
  have IK : Hid ((Tryd.prog.info? 33).map (·.size) = some kc.length) := by unfold Hid; rw [hkl]; kernel_rfl
  have IN : Hid ((Tryd.prog.info? 58).map (·.size) = some nc.length) := by unfold Hid; rw [hnl]; kernel_rfl
  have hmk := fun W => make_bytes n (by omega) W
  clear hkc hnc hk hnn hkl hnl hr h0 h1
  go_enter Tryd.func40, Tryd.ntmps40
  go_upto_region 3 with (fail)
  clear hmk
  obtain ⟨w0, hw0⟩ : ∃ w0, w0 = (((w.alloc (Obj.cells kc.toArray 33)).alloc (Obj.cells nc.toArray 58)).alloc (Obj.cells (outC [] n).toArray 5)).alloc (Obj.cells (List.replicate 64 (.int .u8 0)).toArray 101) := ⟨_, rfl⟩
  have B0 : Hid (Blk w0 w.heap.size 33 kc) := by unfold Hid; rw [hw0]; exact (((Blk.new w 33 kc).alloc _).alloc _).alloc _
  have B1 : Hid (Blk w0 (w.heap.size + 1) 58 nc) := by unfold Hid; rw [hw0]; exact ((Blk.at_new _ _ 58 _ _ rfl (by simp)).alloc _).alloc _
  have B2 : Hid (Blk w0 (w.heap.size + 1 + 1) 5 (outC (Cha.xorTo key ctr nonce b 0) n)) := by unfold Hid; rw [hw0]; exact (Blk.at_new _ _ 5 _ _ rfl (by simp)).alloc _
  have B3 : Hid (Blk w0 (w.heap.size + 1 + 1 + 1) 101 (List.replicate 64 (.int .u8 0))) := by unfold Hid; rw [hw0]; exact Blk.at_new _ _ 101 _ _ rfl (by simp)
  have W0 : Hid (Below w.heap.size w w0) := by unfold Hid; rw [hw0]; exact ((((Below.refl _ _).alloc (Nat.le_refl _) _).alloc (by simp) _).alloc (by simp <;> omega) _).alloc (by simp <;> omega) _
  change Code.wp _ _ _ _ ((((w.alloc (Obj.cells kc.toArray 33)).alloc (Obj.cells nc.toArray 58)).alloc (Obj.cells (outC [] n).toArray 5)).alloc (Obj.cells (List.replicate 64 (.int .u8 0)).toArray 101))
  rw [← hw0]
  clear hw0
  go_wp2_with fail
  go_loopw [1, 18] (fun cv i wr => ∃ (k : Nat) (D : List Value), k ≤ n ∧ i = .int .i64 k ∧ cv = .int .u32 (Cha.ctrAt ctr ((k + 63) / 64)) ∧ Hid (D.length = 64) ∧ Hid (k % 64 ≠ 0 → D = (Cha.block key (Cha.ctrAt ctr (k / 64)) nonce).map cellOf) ∧ Hid (Blk wr w.heap.size 33 kc) ∧ Hid (Blk wr (w.heap.size + 1) 58 nc) ∧ Hid (Blk wr (w.heap.size + 1 + 1) 5 (outC (Cha.xorTo key ctr nonce b k) n)) ∧ Hid (Blk wr (w.heap.size + 1 + 1 + 1) 101 D) ∧ Hid (Below w.heap.size w wr)) (fun _ i _ => n - (intOf i).toNat)
  case atStart => exact ⟨0, List.replicate 64 (.int .u8 0), by omega, rfl, by rw [show (0 + 63) / 64 = 0 from rfl, HC0.out], by unfold Hid; simp, fun h => absurd rfl h, B0, B1, B2, B3, W0⟩
  case round =>
    clear B0 B1 B2 B3 W0
    obtain ⟨k, D, hk, rfl, rfl, LD, HD, B0, B1, B2, B3, BW⟩ := hrel
    obtain ⟨wi, rfl⟩ : ∃ wi, wi = wr := ⟨_, rfl⟩
    by_cases hlt : k < n
    · have hlb : decide ((k : Int) < (n : Int)) = true := by simp; omega
      have hlb' : decide (k < n) = true := by simp; omega
      obtain ⟨bb, off, hA, hbl, hcell⟩ := HR.out.at_ (by omega)
      subst hA
      obtain ⟨x, hx⟩ : ∃ x, x = b.getD k 0 := ⟨_, rfl⟩
      have e0 : wi.cell? ⟨bb, off + k, none⟩ = some (.int .u8 (x.toNat : Int)) := by rw [hx]; exact (BW.out.cell (p := ⟨bb, off + k, none⟩) hbl).trans (hcell k hlt)
      have HX := Lib.hid hx
      obtain ⟨q, hq⟩ : ∃ q, q = k % 64 := ⟨_, rfl⟩
      have hqe : (k : Int) % 64 = (q : Int) := by omega
      have hq64 : q < 64 := by omega
      have HQ := Lib.hid hq
      clear hx hcell hq
      go_upto_if 25 with (fail)
      clear e0
      go_cut [1, 18] from 18 to 41 (fun cv i wx => Hid (i = .int .i64 (k : Int)) ∧ Hid (cv = .int .u32 (Cha.ctrAt ctr (k / 64 + 1))) ∧ Hid (Blk wx w.heap.size 33 kc) ∧ Hid (Blk wx (w.heap.size + 1) 58 nc) ∧ Hid (Blk wx (w.heap.size + 1 + 1) 5 (outC (Cha.xorTo key ctr nonce b k) n)) ∧ Hid (Blk wx (w.heap.size + 1 + 1 + 1) 101 ((Cha.block key (Cha.ctrAt ctr (k / 64)) nonce).map cellOf)) ∧ Hid (Below w.heap.size w wx))
      case first =>
        by_cases hz : q = 0
        · have hqz : ((q : Int) == 0) = true := by simp; omega
          have ek : (k + 63) / 64 = k / 64 := by have := HQ.out; omega
          rw [ek]
          have hcall := Lib.hid (HBL.out wi (Cha.ctrAt ctr (k / 64)))
          go_wp2_with (first
            | ((with_reducible refine load_law rfl 33 (.tmp 4) rfl w.heap.size 0 rfl kc _ Tryd.underlying33 rfl IK.out B0.out.cells ?_))
            | ((with_reducible refine load_law rfl 58 (.tmp 6) rfl (w.heap.size + 1) 0 rfl nc _ Tryd.underlying58 rfl IN.out B1.out.cells ?_)))
          refine hcall.out.mono ?_
          rintro e w2 ⟨rfl, hX⟩
          obtain ⟨E, hE⟩ : ∃ E, E = (Cha.block key (Cha.ctrAt ctr (k / 64)) nonce).map cellOf := ⟨_, rfl⟩
          rw [← hE]
          have hEl : E.length = 64 := by rw [hE, List.length_map, Cha.block_length]
          have IE : Hid ((Tryd.prog.info? 101).map (·.size) = some E.length) := by unfold Hid; rw [hEl]; kernel_rfl
          have LE : Hid (D.length = E.length) := by unfold Hid; rw [hEl, LD.out]
          have OE : Hid (∀ v ∈ E, v.oneCell' = true) := by unfold Hid; rw [hE]; exact cells_u8 _
          have HE := Lib.hid hE
          have C0 := Lib.hid (B0.out.below hX B0.out.lt)
          have C1 := Lib.hid (B1.out.below hX B1.out.lt)
          have C2 := Lib.hid (B2.out.below hX B2.out.lt)
          have C3 := Lib.hid (B3.out.below hX B3.out.lt)
          have CW := Lib.hid (BW.out.trans (hX.mono BW.out.size))
          clear hX hE hEl hcall B0 B1 B2 B3 BW
          go_wp2_with (first
            | ((with_reducible refine storeGen_law rfl 101 (.tmp 10) (.tmp 29) rfl (w.heap.size + 1 + 1 + 1) rfl E rfl 101 D IE.out LE.out OE.out (w.heap.size + 1 + 1 + 1) w2 C3.out (Below.refl _ _) (Nat.le_refl _) ?_); intro w3 E3 X3))
          go_meet
          case rel =>
            refine ⟨rfl, by unfold Hid; rw [ctr_succ], C0.out.below X3.out (by omega), C1.out.below X3.out (by omega), C2.out.below X3.out (by omega), ?_, CW.out.trans (X3.out.mono (by omega))⟩
            rw [← HE.out]
            exact E3
        · have hqz : ((q : Int) == 0) = false := by simp; omega
          have ek : (k + 63) / 64 = k / 64 + 1 := by have := HQ.out; omega
          rw [ek]
          have hD := HD.out (by rw [← HQ.out]; exact hz)
          rw [hD] at B3
          clear hD
          go_wp2_with fail
          go_meet
          case rel => exact ⟨rfl, rfl, B0, B1, B2, B3, BW⟩
      case rest =>
        clear B0 B1 B2 B3 BW LD HD
        obtain ⟨h1, h2, B0, B1, B2, B3, BW⟩ := hcut
        have h1' := h1.out
        have h2' := h2.out
        subst h1'
        subst h2'
        clear h1 h2
        obtain ⟨wi, rfl⟩ : ∃ wi, wi = wc := ⟨_, rfl⟩
        obtain ⟨z, hz⟩ : ∃ z, z = (Cha.block key (Cha.ctrAt ctr (k / 64)) nonce).getD q 0 := ⟨_, rfl⟩
        have cz : wi.cell? ⟨w.heap.size + 1 + 1 + 1, q, none⟩ = some (.int .u8 (z.toNat : Int)) := by rw [B3.out.cell, hz]; exact block_at key nonce _ q hq64
        have HZ : Hid (Cha.xorTo key ctr nonce b (k + 1) = Cha.xorTo key ctr nonce b k ++ [x ^^^ z]) := by unfold Hid; rw [Cha.xorTo_succ, hz, HX.out, HQ.out]; rfl
        have hxz := xor_cell x z
        have c0 : wi.cell? ⟨w.heap.size + 1 + 1, k, none⟩ = some (.int .u8 0) := by rw [B2.out.cell]; exact outC_at _ n k (Cha.xorTo_length _ _ _ _ _) hlt
        have f0 : wi.frozen? ⟨w.heap.size + 1 + 1, k, none⟩ = false := B2.out.frozen _
        have bq : (q : Int) < 64 := by omega
        have B4 : Hid (Blk (wi.setCell ⟨w.heap.size + 1 + 1, k, none⟩ (.int .u8 ((x ^^^ z).toNat : Int))) (w.heap.size + 1 + 1) 5 (outC (Cha.xorTo key ctr nonce b (k + 1)) n)) := by
          have := B2.out.set_ k (cellOf (x ^^^ z))
          rw [outC_set _ n k _ (Cha.xorTo_length _ _ _ _ _) hlt, ← HZ.out] at this
          exact this
        have ek : (k + 1 + 63) / 64 = k / 64 + 1 := by omega
        have HEK := Lib.hid ek
        clear hz ek
        go_wp2_with fail
        clear hxz c0 f0 cz
        go_roundw
        case rel =>
          refine ⟨k + 1, (Cha.block key (Cha.ctrAt ctr (k / 64)) nonce).map cellOf, by omega, by go_num, by rw [HEK.out], by unfold Hid; rw [List.length_map, Cha.block_length], fun hne => ?_, B0.out.far (by simp <;> omega) _, B1.out.far (by simp) _, B4, B3.out.far (by simp) _, BW.out.setCell (by simp <;> omega) _⟩
          have e : (k + 1) / 64 = k / 64 := by omega
          rw [e]
        case measure => simp [intOf]; omega
    · obtain rfl : k = n := by omega
      have hlb : decide ((k : Int) < (k : Int)) = false := by simp
      have HRR := Lib.hid (outC_own (B := w.heap.size) B2.out (Cha.xorTo_length key ctr nonce b k) (by omega) (by omega))
      have HXE : Hid (Cha.xorTo key ctr nonce b k = Cha.xor key ctr nonce b) := by unfold Hid Cha.xor; rw [HL.out]
      rw [HXE.out] at HRR
      clear B0 B1 B2 B3
      go_wp2_with fail
      go_ret
      exact ⟨_, rfl, HRR.out, by omega, BW.out⟩
end Go.Proofs.YtpbfeobifpmjbaaDoor
