import Derived.Test.YtmidbpjdpakkoaaDoorSTrt
import Derived.Test.YtmidbpjdpakkoaaDoorSTz
namespace Go.Proofs.YtmidbpjdpakkoaaDoor
set_option linter.unusedVariables false
set_option linter.unusedSimpArgs false
set_option maxRecDepth 100000
open Go.RowKit
theorem Ow2.rds {w : World} {B : Nat} {e : TypeId} {s : Nat} {A : Option Addr} {n c : Nat} {els : List (List Value)} (h : Ow2 w B e s (.slice A n c) els) : Rd2 w s A n c els ∧ ∀ x, A = some x → B ≤ x.block ∧ x.block < w.heap.size ∧ (Value.slice A n c).ownBlock = some x.block := by
  obtain ⟨A', c', he, h1, h2⟩ := h.rd
  injection he with e1 e2 e3
  subst e1
  subst e2
  subst e3
  exact ⟨h1, h2⟩
theorem t2_built : Tryd.prog.built 76 [] = some [Value.slice none 0 0, .slice none 0 0].toArray := by kernel_rfl
theorem t2_info (u v : Value) : (Tryd.prog.info? 76).map (·.size) = some [u, v].length := by kernel_rfl
set_option maxRecDepth 100000 in
set_option maxHeartbeats 2000000 in
theorem rprove_any {w : World} {A : Option Addr} {n c : Nat} {l : List Tm.P} (hr : Rd2 w 64 A n c (pairs l)) (hf : Tm.Fit 0 l) (hn : n ≤ 900) {k : List UInt8} (hk : k.length = 32) : Calls Tryd.prog 22 #[.slice A n c, hv k] w fun e w' => ∃ x, e = .returned x ∧ PrfAt w' w.heap.size x (Tm.prove l k) ∧ Below w.heap.size w w' := by
  have HF := Lib.hid hf
  have HI := Lib.hid (hash_info hk)
  have CB : Hid (∀ (dp : Nat) (W : World), dp < 256 → Calls Tryd.prog 42 #[hv k, .int .i64 (dp : Int)] W fun e w' => e = .returned (.int .i64 (bitI k dp)) ∧ Below W.heap.size W w') := fun dp W hd => rbit_any hk hd W
  obtain ⟨res, hres⟩ : ∃ res, res = Tm.prove l k := ⟨_, rfl⟩
  rw [← hres]
  have HS : Hid (res.sides = Tm.sides 0 k l) := by unfold Hid; rw [hres, Tm.prove, Tm.sides_of]
  have HE : Hid (res = Tm.Prf.of (Tm.sides 0 k l) (Tm.ends 0 k l)) := hres
  unfold hv at CB ⊢
  obtain ⟨L, hL⟩ : ∃ L, L = k.map cellOf := ⟨_, rfl⟩
  rw [← hL] at CB HI ⊢
  obtain ⟨w1, hw1⟩ : ∃ w1, w1 = ((w.alloc (.cells L.toArray 30)).alloc (.cells (proofL (.slice none 0 0) false (List.replicate 32 (Value.int .u8 0)) (List.replicate 32 (Value.int .u8 0))).toArray 38)).alloc (.cells (proofL (.slice none 0 0) false (List.replicate 32 (Value.int .u8 0)) (List.replicate 32 (Value.int .u8 0))).toArray 38) := ⟨_, rfl⟩
  have X1 : Hid (Below w.heap.size w w1) := by unfold Hid; rw [hw1]; exact (((Below.refl _ _).alloc (Nat.le_refl _) _).alloc (by simp) _).alloc (by simp; omega) _
  have BL : Hid (Blk w1 w.heap.size 30 L) := by unfold Hid; rw [hw1]; exact ((Blk.new w 30 _).alloc _).alloc _
  have BR : Hid (Blk w1 (w.heap.size + 1) 38 (proofL (.slice none 0 0) false (List.replicate 32 (Value.int .u8 0)) (List.replicate 32 (Value.int .u8 0)))) := by unfold Hid; rw [hw1]; exact (Blk.at_new _ _ 38 _ _ rfl (by simp)).alloc _
  have BP : Hid (Blk w1 (w.heap.size + 1 + 1) 38 (proofL (.slice none 0 0) false (List.replicate 32 (Value.int .u8 0)) (List.replicate 32 (Value.int .u8 0)))) := by unfold Hid; rw [hw1]; exact Blk.at_new _ _ 38 _ _ rfl (by simp)
  have R1 : Hid (Rd2 w1 64 A n c (pairs l)) := hr.below X1.out
  have NA1 : Hid (∀ x : Addr, A = some x → 0 < n → some x.block ≠ (Value.slice none 0 0).ownBlock ∧ x.block ≠ w.heap.size + 1 + 1) := fun x hx h0 => by
    obtain ⟨b, off, e, hb, _⟩ := hr.at_ h0
    rw [hx] at e
    injection e with e
    rw [e]
    exact ⟨by simp [Value.ownBlock], by show b ≠ _; omega⟩
  have IH2 : Hid (∀ u v, (Tryd.prog.info? 76).map (·.size) = some [u, v].length) := t2_info
  have HBT := Lib.hid t2_built
  obtain ⟨NS, hNS⟩ : ∃ N, N = [Value.slice none 0 0, .slice none 0 0] := ⟨_, rfl⟩
  have HNS := Lib.hid hNS
  have HINS : Hid ((Tryd.prog.info? 76).map (·.size) = some NS.length) := by unfold Hid; rw [hNS]; exact t2_info _ _
  have HONS : Hid (∀ u ∈ NS, u.oneCell' = true) := by unfold Hid; rw [hNS]; intro u hu; simp only [List.mem_cons, List.not_mem_nil, or_false] at hu; rcases hu with rfl | rfl <;> rfl
  rw [← hNS] at HBT
  have ZB2 : Hid (∀ W : World, Blk (W.alloc (.cells [Value.slice none 0 0, .slice none 0 0].toArray 76)) W.heap.size 76 NS) := fun W => by rw [hNS]; exact Blk.new W 76 _
  obtain ⟨Z, hZ⟩ : ∃ Z, Z = List.replicate 32 (Value.int .u8 0) := ⟨_, rfl⟩
  have HZ := Lib.hid hZ
  have HZL : Hid (Z.length = 32) := by unfold Hid; rw [hZ]; rfl
  have HZO : Hid (∀ u ∈ Z, u.oneCell' = true) := by unfold Hid; rw [hZ]; exact zero_one
  rw [← hZ] at BR BP
  clear hL hr hf hres hNS
  go_enter Tryd.func22, Tryd.ntmps22
  go_upto_region 2 with (fail)
  change Code.wp _ _ _ _ (((w.alloc (.cells L.toArray 30)).alloc (.cells (proofL (.slice none 0 0) false (List.replicate 32 (Value.int .u8 0)) (List.replicate 32 (Value.int .u8 0))).toArray 38)).alloc (.cells (proofL (.slice none 0 0) false (List.replicate 32 (Value.int .u8 0)) (List.replicate 32 (Value.int .u8 0))).toArray 38))
  rw [← hw1]
  clear hZ hw1
  go_wp2_with fail
  go_loopw [0, 6] (fun lv dv wr => ∃ (A : Option Addr) (n c dp : Nat) (lx : List Tm.P) (sd : List (List UInt8)) (v : Value), lv = .slice A n c ∧ dv = .int .i64 (dp : Int) ∧ Hid (Rd2 wr 64 A n c (pairs lx)) ∧ Hid (n ≤ 900) ∧ Hid (Tm.Fit dp lx) ∧ Hid (dp ≤ 256) ∧ Hid (Tm.sides 0 k l = sd ++ Tm.sides dp k lx) ∧ Hid (Tm.ends 0 k l = Tm.ends dp k lx) ∧ Hid (sd.length = dp) ∧ Hid (Blk wr w.heap.size 30 L) ∧ Hid (Blk wr (w.heap.size + 1) 38 (proofL (.slice none 0 0) false Z Z)) ∧ Hid (Blk wr (w.heap.size + 1 + 1) 38 (proofL v false Z Z)) ∧ Hid (Ow2 wr (w.heap.size + 3) 30 32 v (hashes sd)) ∧ Hid (∀ x : Addr, A = some x → 0 < n → some x.block ≠ v.ownBlock ∧ x.block ≠ w.heap.size + 1 + 1) ∧ Hid (Below w.heap.size w wr)) (fun _ d _ => 256 - (intOf d).toNat)
  case atStart => exact ⟨A, n, c, 0, l, [], _, rfl, rfl, R1, hn, HF, Nat.zero_le _, rfl, rfl, rfl, BL, BR, BP, Ow2.empty _ _ _ _, NA1, X1⟩
  case round =>
    clear R1 HF BL BR BP NA1 X1 w1 hn A n c
    obtain ⟨A, n, c, dp, lx, sd, v, rfl, rfl, RX, HN, HF, HD, HSD, HED, HSL, BL, BR, BP, OV, NA, W1⟩ := hrel
    have HLN : Hid (lx.length = n) := by unfold Hid; rw [← RX.out.len]; simp [pairs]
    by_cases h2 : 2 ≤ n
    · have hlb : decide ((1 : Int) < (n : Int)) = true := by simp; omega
      have hl2 : 2 ≤ lx.length := by rw [HLN.out]; exact h2
      have hd : dp < 256 := HF.out.deep hl2
      have hps := BP.out.lt
      have hn1 := Nat.le_refl wr.heap.size
      go_upto_region 6 with (first
        | (with_reducible refine build_law rfl 76 #[] rfl NS (by simp only [List.map_toArray, List.map_nil]; exact HBT.out) ?_)
        | ((with_reducible refine storeGen_law rfl 76 (.tmp 7) (.tmp 14) rfl wr.heap.size rfl NS rfl 76 NS HINS.out rfl HONS.out wr.heap.size wr ?_ ?_ hn1 ?_)
           · exact ZB2.out wr
           · exact alloc_below wr _
           intro w2 B2 X2))
      have h12 := X2.out.size
      have h1s := W1.out.size
      have hB2 := B2.out.lt
      have CH := Lib.hid (rhalves_any (RX.out.below X2.out) HF.out.len HN.out hd)
      go_upto_region 7 with (go_at_call 39; refine CH.out.mono ?_; rintro e w3 ⟨u0, u1, rfl, hU, hV, hX⟩; obtain ⟨A0, c0, hu0, hRz, hAz⟩ := hU.rd; obtain ⟨n0, hn0⟩ : ∃ n, n = (pairs (Tm.half false dp lx)).length := ⟨_, rfl⟩; rw [← hn0] at hu0; clear hn0 hRz hAz; obtain ⟨A1, c1, hu1, hRz, hAz⟩ := hV.rd; obtain ⟨n1, hn1'⟩ : ∃ n, n = (pairs (Tm.half true dp lx)).length := ⟨_, rfl⟩; rw [← hn1'] at hu1; clear hn1' hRz hAz; subst hu0; subst hu1; have OU := Lib.hid hU; have OV1 := Lib.hid hV; have X3 := Lib.hid hX; have B3 := Lib.hid (B2.out.below hX hB2); have d0 : w3.cell? ⟨wr.heap.size, 0, none⟩ = some (.slice none 0 0) := (by rw [B3.out.cell, HNS.out]; rfl); have d1 : w3.cell? ⟨wr.heap.size, 1, none⟩ = some (.slice none 0 0) := (by rw [B3.out.cell, HNS.out]; rfl); have g0 : w3.frozen? ⟨wr.heap.size, 0, none⟩ = false := B3.out.frozen 0; have g1 : w3.frozen? ⟨wr.heap.size, 1, none⟩ = false := B3.out.frozen 1; clear hU hV hX)
      have OU' := OU.out
      have OV' := OV1.out
      have h23 := X3.out.size
      have lowb : ∀ {m : Nat} {W : World} {v : Value} {els : List (List Value)}, Ow2 W w2.heap.size 47 64 v els → v.ownBlock = some m → w2.heap.size ≤ m := fun h e => (World.ownsRow.lt h.own _ e).1
      have OU4 := Lib.hid (Ow2.keep (w' := (w3.setCell ⟨wr.heap.size, 0, none⟩ (.slice A0 n0 c0)).setCell ⟨wr.heap.size, 1, none⟩ (.slice A1 n1 c1)) OU' fun m hm => (Below.heap_setCell _ _ _ _ (by have := lowb OU' hm; show m ≠ wr.heap.size; omega)).trans (Below.heap_setCell _ _ _ _ (by have := lowb OU' hm; show m ≠ wr.heap.size; omega)))
      have OV4 := Lib.hid (Ow2.keep (w' := (w3.setCell ⟨wr.heap.size, 0, none⟩ (.slice A0 n0 c0)).setCell ⟨wr.heap.size, 1, none⟩ (.slice A1 n1 c1)) OV' fun m hm => (Below.heap_setCell _ _ _ _ (by have := lowb OV' hm; show m ≠ wr.heap.size; omega)).trans (Below.heap_setCell _ _ _ _ (by have := lowb OV' hm; show m ≠ wr.heap.size; omega)))
      have B4 : Hid (Blk ((w3.setCell ⟨wr.heap.size, 0, none⟩ (.slice A0 n0 c0)).setCell ⟨wr.heap.size, 1, none⟩ (.slice A1 n1 c1)) wr.heap.size 76 [.slice A0 n0 c0, .slice A1 n1 c1]) := by
        have h := B3.out
        rw [HNS.out] at h
        exact (h.set_ 0 (.slice A0 n0 c0)).set_ 1 (.slice A1 n1 c1)
      have X4 : Hid (Below wr.heap.size wr ((w3.setCell ⟨wr.heap.size, 0, none⟩ (.slice A0 n0 c0)).setCell ⟨wr.heap.size, 1, none⟩ (.slice A1 n1 c1))) := (((X2.out.trans (X3.out.mono h12)).setCell (Nat.le_refl _) _).setCell (Nat.le_refl _) _)
      generalize (w3.setCell ⟨wr.heap.size, 0, none⟩ (.slice A0 n0 c0)).setCell ⟨wr.heap.size, 1, none⟩ (.slice A1 n1 c1) = w4 at *
      clear d0 d1 g0 g1 OU OV1 OU' OV' lowb B3 B2 X2 X3 CH
      obtain ⟨kk, ko, Ax, nx, cx, Az, nz, cz, hkk, hko, hk2, hky, hox, hkz, hoz⟩ : ∃ (kk ko : Nat) (Ax : Option Addr) (nx cx : Nat) (Az : Option Addr) (nz cz : Nat), bitI k dp = (kk : Int) ∧ (1 : Int) - (kk : Int) = (ko : Int) ∧ (kk < 2 ∧ ko < 2) ∧ [Value.slice A0 n0 c0, .slice A1 n1 c1][kk]? = some (.slice Ax nx cx) ∧ Ow2 w4 w2.heap.size 47 64 (.slice Ax nx cx) (pairs (Tm.half (Tm.bit k dp) dp lx)) ∧ [Value.slice A0 n0 c0, .slice A1 n1 c1][ko]? = some (.slice Az nz cz) ∧ Ow2 w4 w2.heap.size 47 64 (.slice Az nz cz) (pairs (Tm.half (!Tm.bit k dp) dp lx)) := by
        unfold bitI
        cases Tm.bit k dp
        · exact ⟨0, 1, A0, n0, c0, A1, n1, c1, rfl, rfl, by omega, rfl, OU4.out, rfl, OV4.out⟩
        · exact ⟨1, 0, A1, n1, c1, A0, n0, c0, rfl, rfl, by omega, rfl, OV4.out, rfl, OU4.out⟩
      have CD := Lib.hid fun W => CB.out dp W hd
      rw [hkk] at CD
      have HKY := Lib.hid hky
      have OX := Lib.hid hox
      have HKZ := Lib.hid hkz
      have OZ := Lib.hid hoz
      have HKO := Lib.hid hko
      have HF1 := Lib.hid (HF.out.half (Tm.bit k dp))
      have HFZ := Lib.hid (HF.out.half (!Tm.bit k dp))
      have HNX : Hid (nx ≤ 900) := by
        have := hox.rds.1.len
        have h' := half_le (Tm.bit k dp) dp lx
        unfold Hid
        simp [pairs] at this
        have := HLN.out
        have := HN.out
        omega
      have HNZ : Hid (nz ≤ 900) := by
        have := hoz.rds.1.len
        have h' := half_le (!Tm.bit k dp) dp lx
        unfold Hid
        simp [pairs] at this
        have := HLN.out
        have := HN.out
        omega
      have HS2 := Lib.hid (Tm.sides_more (k := k) hl2 (show dp ≤ 256 by omega))
      have HE2 := Lib.hid (Tm.ends_more (k := k) hl2 (show dp ≤ 256 by omega))
      obtain ⟨hk21, hk22⟩ := hk2
      have hk2i : ¬ (2 : Int) ≤ (kk : Int) := by omega
      have hk2o : ¬ (2 : Int) ≤ (ko : Int) := by omega
      have hws : w.heap.size + 1 + 1 < w4.heap.size := Nat.lt_of_lt_of_le hps X4.out.size
      have BL4 := Lib.hid (BL.out.below X4.out BL.out.lt)
      have BR4 := Lib.hid (BR.out.below X4.out BR.out.lt)
      have BP4 := Lib.hid (BP.out.below X4.out hps)
      have OS4 := Lib.hid (OV.out.below X4.out)
      have W4 := Lib.hid (W1.out.trans (X4.out.mono h1s))
      clear hky hox hkz hoz hkk hko OU4 OV4 BL BR BP OV W1 X4 HF HN RX NA hps
      go_upto_region 8 with (first
        | (with_reducible refine load_law rfl 30 (.tmp 3) rfl w.heap.size 0 rfl L _ Tryd.underlying30 rfl HI.out BL4.out.cells ?_)
        | (go_at_call 42; refine (CD.out w4).mono ?_; rintro e w5 ⟨rfl, hX⟩; have X5 := Lib.hid hX; clear hX))
      have h45 := X5.out.size
      have hB4 := B4.out.lt
      replace W4 : Hid (Below w.heap.size w w5.drew) := (W4.out.trans (X5.out.mono W4.out.size)).drew
      replace BL4 : Hid (Blk w5.drew w.heap.size 30 L) := (BL4.out.below X5.out BL4.out.lt).drew
      replace BR4 : Hid (Blk w5.drew (w.heap.size + 1) 38 (proofL (.slice none 0 0) false Z Z)) := (BR4.out.below X5.out BR4.out.lt).drew
      replace BP4 : Hid (Blk w5.drew (w.heap.size + 1 + 1) 38 (proofL v false Z Z)) := (BP4.out.below X5.out BP4.out.lt).drew
      replace B4 : Hid (Blk w5.drew wr.heap.size 76 [.slice A0 n0 c0, .slice A1 n1 c1]) := (B4.out.below X5.out hB4).drew
      replace OS4 : Hid (Ow2 w5.drew (w.heap.size + 3) 30 32 v (hashes sd)) := (OS4.out.below X5.out).keep fun _ _ => rfl
      replace OX : Hid (Ow2 w5.drew w2.heap.size 47 64 (.slice Ax nx cx) (pairs (Tm.half (Tm.bit k dp) dp lx))) := (OX.out.below X5.out).keep fun _ _ => rfl
      replace OZ : Hid (Ow2 w5.drew w2.heap.size 47 64 (.slice Az nz cz) (pairs (Tm.half (!Tm.bit k dp) dp lx))) := (OZ.out.below X5.out).keep fun _ _ => rfl
      have hwd : w.heap.size + 1 + 1 < w5.drew.heap.size := BP4.out.lt
      refine wp_region_any (by kernel_rfl) ?_
      change wpAny _ _ _ _ _ _ _ (World.drew _)
      generalize w5.drew = wd at *
      obtain ⟨rs, hrs⟩ : ∃ r, r = Tm.root (dp + 1) (Tm.half (!Tm.bit k dp) dp lx) := ⟨_, rfl⟩
      have hrl : rs.length = 32 := by rw [hrs]; exact Tm.root_length _ _
      have CA : Hid (∀ W, Below wd.heap.size wd W → Calls Tryd.prog 18 #[.slice Az nz cz, .int .i64 ((dp : Int) + 1)] W fun e w' => e = .returned (hv rs) ∧ Below W.heap.size W w') := fun W hW => by
        rw [hrs]
        exact rroot_any (257 - (dp + 1)) _ (dp + 1) (by omega) (OZ.out.below hW).rds.1 HFZ.out HNZ.out
      rw [← hrs] at HS2
      have RW := Lib.hid fun W => hashRow (c := rs.map cellOf) (by simpa using hrl) W
      unfold hv at CA
      obtain ⟨RC, hRC⟩ : ∃ c, c = rs.map cellOf := ⟨_, rfl⟩
      rw [← hRC] at RW CA
      have HRC := Lib.hid hRC
      have e1 := HKO.out
      have e3 : IntKind.i64.wrap ((dp : Int) + 1) = (dp : Int) + 1 := wrap_small _ (by omega) (by omega)
      have e2 : IntKind.i64.wrap (ko : Int) = (ko : Int) := by match ko, hk22 with | 0, _ => rfl | 1, _ => rfl
      clear CD hrs hRC X5 HKO h45 hB4 HFZ HNZ w5
      refine wpAny_take (i := 0) (oi := ?oi1) (v := .pointer (some ⟨w.heap.size + 1 + 1, 0, none⟩)) ?hi1 (by kernel_rfl) (by kernel_rfl) (by kernel_rfl) ?hQ1 ?hy1 ?rest1
      case hi1 => simp only [zge]; rfl
      case hQ1 => exact fun _ _ _ h => h
      case hy1 => exact Or.inl ⟨by rfl, by intro w; go_simp⟩
      try simp only [zpt]
      refine wpAny_take (i := 2) (oi := ?oi2) (v := .int .i64 (kk : Int)) ?hi2 (by kernel_rfl) (by kernel_rfl) (by kernel_rfl) ?hQ2 ?hy2 ?rest2
      case hi2 => simp only [zge]; rfl
      case hQ2 => exact fun _ _ _ h => h
      case hy2 => exact Or.inl ⟨by rfl, by intro w; go_simp⟩
      try simp only [zpt]
      refine wpAny_take (i := 3) (oi := ?oi3) (v := .int .i64 (ko : Int)) ?hi3 (by kernel_rfl) (by kernel_rfl) (by kernel_rfl) ?hQ3 ?hy3 ?rest3
      case hi3 => simp only [zge]; rfl
      case hQ3 => exact fun _ _ _ h => h
      case hy3 => exact Or.inl ⟨by rfl, by intro w; go_simp⟩
      try simp only [zpt]
      refine wpAny_take (i := 4) (oi := ?oi4) (v := .pointer (some ⟨wr.heap.size, ko, none⟩)) ?hi4 (by kernel_rfl) (by kernel_rfl) (by kernel_rfl) ?hQ4 ?hy4 ?rest4
      case hi4 => simp only [zge]; rfl
      case hQ4 => exact fun _ _ _ h => h
      case hy4 => exact Or.inl ⟨by rfl, by intro w; go_simp⟩
      try simp only [zpt]
      refine wpAny_take (i := 6) (oi := ?oi5) (v := .int .i64 (dp : Int)) ?hi5 (by kernel_rfl) (by kernel_rfl) (by kernel_rfl) ?hQ5 ?hy5 ?rest5
      case hi5 => simp only [zge]; rfl
      case hQ5 => exact fun _ _ _ h => h
      case hy5 => exact Or.inl ⟨by rfl, by intro w; go_simp⟩
      try simp only [zpt]
      refine wpAny_take (i := 7) (oi := ?oi6) (v := .int .i64 ((dp : Int) + 1)) ?hi6 (by kernel_rfl) (by kernel_rfl) (by kernel_rfl) ?hQ6 ?hy6 ?rest6
      case hi6 => simp only [zge]; rfl
      case hQ6 => exact fun _ _ _ h => h
      case hy6 => exact Or.inl ⟨by rfl, by intro w; go_simp⟩
      try simp only [zpt]
      refine phaseL (fun i => if i = 8 then [5] else if i = 9 then [8] else []) (fun d a w' => ∃ x27 x31 x34 x35 : Value, a = { tmps := #[.slice A n c, .agg L.toArray, undef, .pointer (some ⟨w.heap.size, 0, none⟩), .pointer (some ⟨w.heap.size + 1, 0, none⟩), .pointer (some ⟨w.heap.size + 1 + 1, 0, none⟩), .int .i64 (dp : Int), .pointer (some ⟨wr.heap.size, 0, none⟩), .int .i64 (kk : Int), .slice A n c, .int .i64 (n : Int), .bool true, u12, u13, .agg NS.toArray, .tuple #[.slice A0 n0 c0, .slice A1 n1 c1], .slice A n c, .int .i64 (dp : Int), .tuple #[.slice A0 n0 c0, .slice A1 n1 c1], .slice A0 n0 c0, .slice A1 n1 c1, .pointer (some ⟨wr.heap.size, 0, none⟩), .pointer (some ⟨wr.heap.size, 1, none⟩), .agg L.toArray, .int .i64 (dp : Int), .int .i64 (kk : Int), .pointer (some ⟨w.heap.size + 1 + 1, 0, none⟩), x27, .int .i64 (kk : Int), .int .i64 (ko : Int), .pointer (some ⟨wr.heap.size, ko, none⟩), x31, .int .i64 (dp : Int), .int .i64 ((dp : Int) + 1), x34, x35, u36, u37, u38, u39, u40, undef, undef, undef, undef, undef, undef, undef, undef, undef, undef, undef, undef, undef, undef, undef], defers := [] } ∧ Hid (Below wd.heap.size wd w') ∧ (d 1 = true → x27 = v) ∧ (d 5 = true → x31 = .slice Az nz cz) ∧ (d 8 = true → x34 = .agg RC.toArray) ∧ (d 9 = true → Hid (RowAt w' wd.heap.size x35 30 RC))) [1, 5, 8, 9] ?step7 3 4 [1, 5, 8, 9] _ _ _ rfl (by decide) (fun _ h => h) (Fits.of (by kernel_rfl)) ?init7 ?fin7
      case init7 => refine ⟨_, _, _, _, rfl, Below.refl _ _, ?_, ?_, ?_, ?_⟩ <;> (intro h; exact absurd h (by decide))
      case step7 =>
        intro i hi d a v7 hI hdi hdeps
        obtain ⟨x27, x31, x34, x35, rfl, BW, h1, h5, h8, h9⟩ := hI
        have hsw := BW.out.size
        simp only [List.mem_cons, List.not_mem_nil, or_false] at hi
        rcases hi with rfl | rfl | rfl | rfl
        · have c0 : v7.cell? ⟨w.heap.size + 1 + 1, 0, none⟩ = some (v) := (BP4.out.below BW.out BP4.out.lt).cell 0
          refine wpOp_step (o := ?os8) ?hos8 (fun K hK => ?_)
          case hos8 => simp only [zge]; rfl
          go_simp
          refine hK _ _ ?_
          clear hK K
          try simp only [zpt]
          exact ⟨_, _, _, _, rfl, BW, fun _ => rfl, fun a => by first | exact h5 (by simpa using a) | rfl, fun a => by first | exact h8 (by simpa using a) | rfl, fun a => h9 (by simpa using a)⟩
        · have c0 : v7.cell? ⟨wr.heap.size, ko, none⟩ = some (.slice Az nz cz) := by rw [(B4.out.below BW.out B4.out.lt).cell]; exact HKZ.out
          refine wpOp_step (o := ?os9) ?hos9 (fun K hK => ?_)
          case hos9 => simp only [zge]; rfl
          go_simp
          refine hK _ _ ?_
          clear hK K
          try simp only [zpt]
          exact ⟨_, _, _, _, rfl, BW, fun a => by first | exact h1 (by simpa using a) | rfl, fun _ => rfl, fun a => by first | exact h8 (by simpa using a) | rfl, fun a => h9 (by simpa using a)⟩
        · obtain rfl := h5 (hdeps 5 (by simp))
          refine wpOp_step (o := ?os10) ?hos10 (fun K hK => ?_)
          case hos10 => simp only [zge]; rfl
          go_simp
          refine (CA.out v7 BW.out).mono ?_
          rintro e u7 ⟨rfl, hX⟩
          refine hK _ _ ?_
          clear hK K
          try simp only [zpt]
          exact ⟨_, _, _, _, rfl, BW.out.trans (hX.mono hsw), fun a => by first | exact h1 (by simpa using a) | rfl, fun a => by first | exact h5 (by simpa using a) | rfl, fun _ => rfl, fun a => (h9 (by simpa using a)).out.below hX⟩
        · obtain rfl := h8 (hdeps 8 (by simp))
          have hX := alloc_below v7 (.cells RC.toArray 30)
          refine wpOp_step (o := ?os11) ?hos11 (fun K hK => ?_)
          case hos11 => simp only [zge]; rfl
          refine step_bslice rfl 36 1 #[(0, .tmp 34)] rfl (by simp only [List.map_toArray, List.map_cons, List.map_nil]; exact RW.out _) (hK _ _ ?_)
          clear hK K
          try simp only [zpt]
          exact ⟨_, _, _, _, rfl, BW.out.trans (hX.mono hsw), fun a => by first | exact h1 (by simpa using a) | rfl, fun a => by first | exact h5 (by simpa using a) | rfl, fun a => by first | exact h8 (by simpa using a) | rfl, fun _ => RowAt.new _ _ _ hsw⟩
      case fin7 =>
        intro a v7 hI
        obtain ⟨x27, x31, x34, x35, rfl, BW, h1, h5, h8, h9⟩ := hI
        obtain rfl := (h1 (by decide)).symm
        obtain rfl := h5 (by decide)
        obtain rfl := h8 (by decide)
        obtain ⟨q, rfl, hq, hQ⟩ := (h9 (by decide)).out
        have BL6 := Lib.hid (BL4.out.below BW.out BL4.out.lt)
        have BR6 := Lib.hid (BR4.out.below BW.out BR4.out.lt)
        have BP6 := Lib.hid (BP4.out.below BW.out BP4.out.lt)
        have B6 := Lib.hid (B4.out.below BW.out B4.out.lt)
        have OV6 := Lib.hid (OS4.out.below BW.out)
        have OX6 := Lib.hid (OX.out.below BW.out)
        have W6 := Lib.hid (W4.out.trans (BW.out.mono W4.out.size))
        have h4s := BW.out.size
        rw [HRC.out] at hQ
        obtain ⟨v', w7, hrun, hO7, hG7, hL7⟩ := push_hash (ty := 36) (c := 1) OV6.out hQ hrl (by have := HSL.out; have := HD.out; omega) (by omega)
        have OV7 := Lib.hid hO7
        have nv : ∀ m, m < w.heap.size + 3 → some m ≠ v.ownBlock := fun m hm e => by have := (World.ownsRow.lt OV6.out.own m e.symm).1; omega
        have BL7 : Hid (Blk w7 w.heap.size 30 L) := (hG7.block _ BL6.out.lt (nv _ (by omega))).trans BL6.out
        have BR7 : Hid (Blk w7 (w.heap.size + 1) 38 (proofL (.slice none 0 0) false Z Z)) := (hG7.block _ BR6.out.lt (nv _ (by omega))).trans BR6.out
        have BP7 : Hid (Blk w7 (w.heap.size + 1 + 1) 38 (proofL v false Z Z)) := (hG7.block _ BP6.out.lt (nv _ (by omega))).trans BP6.out
        have B7 : Hid (Blk w7 wr.heap.size 76 [.slice A0 n0 c0, .slice A1 n1 c1]) := (hG7.block _ B6.out.lt (OV6.out.ne B6.out (by decide))).trans B6.out
        have OX7 : Hid (Ow2 w7 w2.heap.size 47 64 (.slice Ax nx cx) (pairs (Tm.half (Tm.bit k dp) dp lx))) := OX6.out.keep fun m hm => hG7.block m (World.ownsRow.lt OX6.out.own m hm).2 (fun e => by
          rcases rows_apart OX6.out.own OV6.out.own (by decide) with h | h
          · rw [h] at hm; cases hm
          · exact h (by rw [hm, e]))
        have W7 : Hid (Below w.heap.size w w7) := W6.out.grown hG7 W6.out.size (fun m hm => by have := (World.ownsRow.lt OV6.out.own m hm).1; omega)
        clear BL4 BR4 BP4 B4 OS4 OX W4 BW h1 h5 h8 h9 hQ BL6 BR6 BP6 B6 OV6 OX6 W6 hO7 hG7 hL7 nv CA RW OZ HKZ
        obtain ⟨A', cv, hv', hRz, hAz⟩ := OV7.out.rd
        clear hRz hAz
        obtain ⟨n5, hn5⟩ : ∃ n, n = (hashes (sd ++ [rs])).length := ⟨_, rfl⟩
        rw [← hn5] at hv'
        subst hv'
        clear hn5
        try dsimp only
        refine wpAny_ready (rs := [10]) (by kernel_rfl) (by simp) ?_
        refine AllReady.cons (o := ?p12) ?q12 (fun K hK => ?_) AllReady.nil
        case q12 => simp only [zge]; rfl
        refine step_append rfl (.tmp 27) (.tmp 35) 36 36 rfl rfl rfl hrun (hK _ _ ?_)
        clear hK K hrun
        try simp only [zpt]
        refine wpAny_take (i := 11) (oi := ?oi13) (v := .pointer (some ⟨w.heap.size + 1 + 1, 0, none⟩)) ?hi13 (by kernel_rfl) (by kernel_rfl) (by kernel_rfl) ?hQ13 ?hy13 ?rest13
        case hi13 => simp only [zge]; rfl
        case hQ13 => exact fun _ _ _ h => h
        case hy13 => exact Or.inl ⟨by rfl, by intro w; go_simp⟩
        try simp only [zpt]
        have c5 : w7.cell? ⟨w.heap.size + 1 + 1, 0, none⟩ = some v := BP7.out.cell 0
        have f5 : w7.frozen? ⟨w.heap.size + 1 + 1, 0, none⟩ = false := BP7.out.frozen 0
        refine wpAny_ready (rs := [12]) (by kernel_rfl) (by simp) ?_
        refine AllReady.cons (o := ?p14) ?q14 (fun K hK => ?_) AllReady.nil
        case q14 => simp only [zge]; rfl
        go_simp
        refine hK _ _ ?_
        clear hK K
        try simp only [zpt]
        have BP8 : Hid (Blk (w7.setCell ⟨w.heap.size + 1 + 1, 0, none⟩ (.slice A' n5 cv)) (w.heap.size + 1 + 1) 38 (proofL (.slice A' n5 cv) false Z Z)) := BP7.out.set_ 0 (.slice A' n5 cv)
        have OV8 : Hid (Ow2 (w7.setCell ⟨w.heap.size + 1 + 1, 0, none⟩ (.slice A' n5 cv)) (w.heap.size + 3) 30 32 (.slice A' n5 cv) (hashes (sd ++ [rs]))) := OV7.out.keep fun m hm => Below.heap_setCell _ _ _ _ (by have := (World.ownsRow.lt OV7.out.own m hm).1; show m ≠ w.heap.size + 1 + 1; omega)
        have nep := OX7.out.ne BP7.out (by decide)
        have OX8 : Hid (Ow2 (w7.setCell ⟨w.heap.size + 1 + 1, 0, none⟩ (.slice A' n5 cv)) w2.heap.size 47 64 (.slice Ax nx cx) (pairs (Tm.half (Tm.bit k dp) dp lx))) := OX7.out.keep fun m hm => Below.heap_setCell _ _ _ _ (fun e => nep (by rw [hm, show m = w.heap.size + 1 + 1 from e]))
        have BL8 : Hid (Blk (w7.setCell ⟨w.heap.size + 1 + 1, 0, none⟩ (.slice A' n5 cv)) w.heap.size 30 L) := BL7.out.far (by show w.heap.size ≠ w.heap.size + 1 + 1; omega) _
        have BR8 : Hid (Blk (w7.setCell ⟨w.heap.size + 1 + 1, 0, none⟩ (.slice A' n5 cv)) (w.heap.size + 1) 38 (proofL (.slice none 0 0) false Z Z)) := BR7.out.far (by show w.heap.size + 1 ≠ w.heap.size + 1 + 1; omega) _
        have B8 : Hid (Blk (w7.setCell ⟨w.heap.size + 1 + 1, 0, none⟩ (.slice A' n5 cv)) wr.heap.size 76 [.slice A0 n0 c0, .slice A1 n1 c1]) := B7.out.far (fun e => by have h := B7.out; rw [show wr.heap.size = w.heap.size + 1 + 1 from e] at h; have h' := BP7.out; unfold Blk at h h'; rw [h'] at h; injection h with h; injection h with _ h _; exact absurd h (by decide)) _
        have W8 : Hid (Below w.heap.size w (w7.setCell ⟨w.heap.size + 1 + 1, 0, none⟩ (.slice A' n5 cv))) := W7.out.setCell (by show w.heap.size ≤ w.heap.size + 1 + 1; omega) _
        change wpAny _ _ _ _ _ _ _ (w7.setCell ⟨w.heap.size + 1 + 1, 0, none⟩ (.slice A' n5 cv))
        generalize w7.setCell ⟨w.heap.size + 1 + 1, 0, none⟩ (.slice A' n5 cv) = w8 at *
        have NA8 : Hid (∀ x : Addr, Ax = some x → 0 < nx → some x.block ≠ (.slice A' n5 cv : Value).ownBlock ∧ x.block ≠ w.heap.size + 1 + 1) := fun x hx h0 => by
          have hb := (OX8.out.rds.2 x hx).2.2
          refine ⟨fun e => ?_, fun e => ?_⟩
          · rcases rows_apart OX8.out.own OV8.out.own (by decide) with h | h
            · rw [h] at hb; cases hb
            · exact h (by rw [hb, e])
          · exact OX8.out.ne BP8.out (by decide) (by rw [hb, e])
        have c7 : w8.cell? ⟨wr.heap.size, kk, none⟩ = some (.slice Ax nx cx) := by rw [B8.out.cell]; exact HKY.out
        have RX8 : Hid (Rd2 w8 64 Ax nx cx (pairs (Tm.half (Tm.bit k dp) dp lx))) := OX8.out.rds.1
        clear BL7 BR7 BP7 B7 OV7 OX7 W7 B8 HKY OX8 e1 e2 e3 c5 f5 nep
        refine wpAny_done (by kernel_rfl) ?_ _
        go_wp2_with fail
        go_roundw
        case rel => exact ⟨Ax, nx, cx, dp + 1, _, sd ++ [rs], .slice A' n5 cv, rfl, by go_num, RX8, HNX, HF1, by unfold Hid; omega, by unfold Hid; rw [HSD.out, HS2.out]; simp, HED.out.trans HE2.out, by unfold Hid; simp [HSL.out], BL8, BR8, BP8, OV8, NA8, W8⟩
        case measure => simp [intOf]; omega
    · have hlb : decide ((1 : Int) < (n : Int)) = false := by simp; omega
      have hSV := OV.out.slice
      have hl1 : lx.length ≤ 1 := by have := HLN.out; omega
      have HSS : Hid (res.sides = sd) := by unfold Hid; rw [HS.out, HSD.out, Tm.sides_one hl1]; simp
      have HEE : Hid (res = Tm.Prf.of (Tm.sides 0 k l) lx.head?) := by unfold Hid; rw [HE.out, HED.out, Tm.ends_one hl1]
      have hle : w.heap.size ≤ w.heap.size + 1 := by omega
      have IR : Hid ((Tryd.prog.info? 38).map (·.size) = some (proofL (.slice none 0 0) false Z Z).length) := proofL_info HZL.out HZL.out
      have hlc : lx = [] ∨ ∃ p, lx = [p] := by
        match lx, hl1 with
        | [], _ => exact .inl rfl
        | [p], _ => exact .inr ⟨p, rfl⟩
        | _ :: _ :: _, h => simp at h
      rcases hlc with hlx | ⟨r, hlx⟩
      · have hn0 : n = 0 := by rw [← HLN.out, hlx]; rfl
        subst hn0
        clear hlb
        have HEZ : Hid (res.has = false ∧ res.lab.map cellOf = Z ∧ res.sum.map cellOf = Z ∧ res.lab.length = 32 ∧ res.sum.length = 32) := by unfold Hid; rw [HEE.out, HZ.out, hlx]; exact ⟨rfl, rfl, rfl, rfl, rfl⟩
        obtain ⟨P0, hP0⟩ : ∃ P, P = proofL v false Z Z := ⟨_, rfl⟩
        have HI0 : Hid ((Tryd.prog.info? 38).map (·.size) = some P0.length) := by unfold Hid; rw [hP0]; exact proofL_info HZL.out HZL.out
        have HO0 : Hid (∀ u ∈ P0, u.oneCell' = true) := by unfold Hid; rw [hP0]; exact proofL_one hSV HZO.out HZO.out
        have HN0 : Hid ((proofL (.slice none 0 0) false Z Z).length = P0.length) := by unfold Hid; rw [hP0, proofL_length HZL.out HZL.out, proofL_length HZL.out HZL.out]
        have HP0 := Lib.hid hP0
        rw [← hP0] at BP
        clear hP0 hSV hlx RX
        go_wp2_with (first
          | (with_reducible refine load_law rfl 38 (.tmp 5) rfl (w.heap.size + 1 + 1) 0 rfl P0 _ Tryd.underlying38 rfl HI0.out BP.out.cells ?_)
          | (with_reducible refine storeAll_law rfl 38 (.tmp 4) (.tmp 55) rfl (w.heap.size + 1) rfl P0 rfl 38 (proofL (.slice none 0 0) false Z Z) BR.out HI0.out HN0.out HO0.out ?_))
        have B6 : Hid (Blk (wr.setRow (w.heap.size + 1) P0.toArray) (w.heap.size + 1) 38 P0) := BR.out.row
        have OV6 : Hid (Ow2 (wr.setRow (w.heap.size + 1) P0.toArray) w.heap.size 30 32 v (hashes sd)) := (OV.out.keep fun m hm => setRow_other _ _ _ _ (by have := (World.ownsRow.lt OV.out.own m hm).1; omega)).base (by omega)
        have W6 : Hid (Below w.heap.size w (wr.setRow (w.heap.size + 1) P0.toArray)) := below_setRow W1.out hle _
        generalize wr.setRow (w.heap.size + 1) P0.toArray = w6 at *
        exact bodyPost_ret (results_cell_row rfl _ _ (w.heap.size + 1) 38 P0.toArray (0, 0) _ rfl B6.out Tryd.underlying38 rfl (by rw [HI0.out]; simp)) rfl ⟨_, rfl, ⟨⟨v, by rw [HP0.out, HEZ.out.1, HEZ.out.2.1, HEZ.out.2.2.1], by rw [HSS.out]; exact OV6.out⟩, HEZ.out.2.2.2.1, HEZ.out.2.2.2.2⟩, W6.out⟩
      · have hn1 : n = 1 := by rw [← HLN.out, hlx]; rfl
        subst hn1
        clear hlb
        have hmem : r ∈ lx := by rw [hlx]; simp
        have hr1 := (HF.out.len r hmem).1
        have hr2 := (HF.out.len r hmem).2
        have hk0 : 0 < lx.length := by rw [hlx]; simp
        obtain ⟨q, f0, rfl, hb3, hZa, hZb, hx1, hx2⟩ := rd2_pair RX.out HF.out.len hk0
        clear hZa hZb
        have hq0 := NA.out _ rfl (by omega)
        have hqv : some q ≠ v.ownBlock := hq0.1
        have hqp : q ≠ w.heap.size + 1 + 1 := hq0.2
        have hl0 : lx[0] = r := by simp [hlx]
        rw [hl0] at hx1 hx2
        have hx1 : ∀ i x, (r.1.map cellOf)[i]? = some x → wr.cell? ⟨q, f0 + i, none⟩ = some x := by simpa using hx1
        have hx2 : ∀ i x, (r.2.map cellOf)[i]? = some x → wr.cell? ⟨q, f0 + 32 + i, none⟩ = some x := by simpa using hx2
        have hi : ∀ W, (Instr.indexAt 25 (.slice (some ⟨q, f0, none⟩) 1 c) (.int .i64 0)).run Tryd.prog W = .ok (.pointer (some ⟨q, f0, none⟩)) W := fun W => by have := index_pair q f0 1 c 0 (by omega) W; simpa using this
        have HEZ : Hid (res.has = true ∧ res.lab = r.1 ∧ res.sum = r.2) := by unfold Hid; rw [HEE.out, hlx]; exact ⟨rfl, rfl, rfl⟩
        have HRL : Hid (r.1.length = 32 ∧ r.2.length = 32) := ⟨hr1, hr2⟩
        have HIR := Lib.hid (hash_info hr1)
        have HIS := Lib.hid (hash_info hr2)
        have HL0 : Hid ((r.1.map cellOf).length = 32) := by unfold Hid; rw [List.length_map, hr1]
        have HS0 : Hid ((r.2.map cellOf).length = 32) := by unfold Hid; rw [List.length_map, hr2]
        have OL0 := Lib.hid (cells_u8 r.1)
        have OS0 := Lib.hid (cells_u8 r.2)
        obtain ⟨L0, hL0⟩ : ∃ L, L = r.1.map cellOf := ⟨_, rfl⟩
        obtain ⟨S0, hS0⟩ : ∃ L, L = r.2.map cellOf := ⟨_, rfl⟩
        rw [← hL0] at HIR HL0 OL0 hx1
        rw [← hS0] at HIS HS0 OS0 hx2
        have EL0 := Lib.hid hL0
        have ES0 := Lib.hid hS0
        obtain ⟨P0, hP0⟩ : ∃ P, P = proofL v true L0 S0 := ⟨_, rfl⟩
        have HI0 : Hid ((Tryd.prog.info? 38).map (·.size) = some P0.length) := by unfold Hid; rw [hP0]; exact proofL_info HL0.out HS0.out
        have HO0 : Hid (∀ u ∈ P0, u.oneCell' = true) := by unfold Hid; rw [hP0]; exact proofL_one hSV OL0.out OS0.out
        have HN0 : Hid ((proofL (.slice none 0 0) false Z Z).length = P0.length) := by unfold Hid; rw [hP0, proofL_length HZL.out HZL.out, proofL_length HL0.out HS0.out]
        have HP0 := Lib.hid hP0
        have LBL := Lib.hid fun (b : Bool) => proofL_lab (v := v) (has := b) (sum := Z) HL0.out HZL.out
        have LSM := Lib.hid (proofL_sum (v := v) (has := true) HL0.out HZL.out HS0.out)
        have HNL : Hid (∀ b : Bool, 2 + L0.length ≤ (proofL v b Z Z).length) := fun b => by rw [proofL_length HZL.out HZL.out, HL0.out]; omega
        have HNS' : Hid (34 + S0.length ≤ (proofL v true L0 Z).length) := by unfold Hid; rw [proofL_length HL0.out HZL.out, HS0.out]; omega
        have HX1 := Lib.hid hx1
        have HX2 := Lib.hid hx2
        clear hL0 hS0 hP0 hSV hr1 hr2 hx1 hx2 hl0 hmem hk0 hlx hq0 RX NA
        go_upto_region 11 with (fail)
        refine wp_region_any (by kernel_rfl) ?_
        replace BR := Lib.hid BR.out.drew
        replace BP := Lib.hid BP.out.drew
        replace OV : Hid (Ow2 wr.drew (w.heap.size + 3) 30 32 v (hashes sd)) := OV.out.keep fun _ _ => rfl
        replace W1 := Lib.hid W1.out.drew
        have HQ : Hid (wr.drew.heap[q]? = wr.heap[q]?) := rfl
        have hps := BP.out.lt
        change wpAny _ _ _ _ _ _ _ (World.drew _)
        generalize wr.drew = wd at *
        refine wpAny_take (i := 0) (oi := ?oi15) (v := .slice (some ⟨q, f0, none⟩) 1 c) ?hi15 (by kernel_rfl) (by kernel_rfl) (by kernel_rfl) ?hQ15 ?hy15 ?rest15
        case hi15 => simp only [zge]; rfl
        case hQ15 => exact fun _ _ _ h => h
        case hy15 => exact Or.inl ⟨by rfl, by intro w; go_simp⟩
        try simp only [zpt]
        refine wpAny_take (i := 1) (oi := ?oi16) (v := .pointer (some ⟨q, f0, none⟩)) ?hi16 (by kernel_rfl) (by kernel_rfl) (by kernel_rfl) ?hQ16 ?hy16 ?rest16
        case hi16 => simp only [zge]; rfl
        case hQ16 => exact fun _ _ _ h => h
        case hy16 => exact Or.inl ⟨by rfl, by intro w; go_simp⟩
        try simp only [zpt]
        refine wpAny_take (i := 2) (oi := ?oi17) (v := .pointer (some ⟨q, f0, none⟩)) ?hi17 (by kernel_rfl) (by kernel_rfl) (by kernel_rfl) ?hQ17 ?hy17 ?rest17
        case hi17 => simp only [zge]; rfl
        case hQ17 => exact fun _ _ _ h => h
        case hy17 => exact Or.inl ⟨by rfl, by intro w; go_simp⟩
        try simp only [zpt]
        refine wpAny_take (i := 4) (oi := ?oi18) (v := .slice (some ⟨q, f0, none⟩) 1 c) ?hi18 (by kernel_rfl) (by kernel_rfl) (by kernel_rfl) ?hQ18 ?hy18 ?rest18
        case hi18 => simp only [zge]; rfl
        case hQ18 => exact fun _ _ _ h => h
        case hy18 => exact Or.inl ⟨by rfl, by intro w; go_simp⟩
        try simp only [zpt]
        refine wpAny_take (i := 5) (oi := ?oi19) (v := .pointer (some ⟨q, f0, none⟩)) ?hi19 (by kernel_rfl) (by kernel_rfl) (by kernel_rfl) ?hQ19 ?hy19 ?rest19
        case hi19 => simp only [zge]; rfl
        case hQ19 => exact fun _ _ _ h => h
        case hy19 => exact Or.inl ⟨by rfl, by intro w; go_simp⟩
        try simp only [zpt]
        refine wpAny_take (i := 6) (oi := ?oi20) (v := .pointer (some ⟨q, f0 + 32, none⟩)) ?hi20 (by kernel_rfl) (by kernel_rfl) (by kernel_rfl) ?hQ20 ?hy20 ?rest20
        case hi20 => simp only [zge]; rfl
        case hQ20 => exact fun _ _ _ h => h
        case hy20 => exact Or.inl ⟨by rfl, by intro w; go_simp⟩
        try simp only [zpt]
        refine wpAny_take (i := 8) (oi := ?oi21) (v := .pointer (some ⟨w.heap.size + 1 + 1, 1, none⟩)) ?hi21 (by kernel_rfl) (by kernel_rfl) (by kernel_rfl) ?hQ21 ?hy21 ?rest21
        case hi21 => simp only [zge]; rfl
        case hQ21 => exact fun _ _ _ h => h
        case hy21 => exact Or.inl ⟨by rfl, by intro w; go_simp⟩
        try simp only [zpt]
        refine phaseL (fun i => if i = 10 then [3, 9] else if i = 11 then [10, 3, 9] else []) (fun d a w' => ∃ x47 x51 x53 : Value, a = { tmps := #[.slice (some ⟨q, f0, none⟩) 1 c, .agg L.toArray, undef, .pointer (some ⟨w.heap.size, 0, none⟩), .pointer (some ⟨w.heap.size + 1, 0, none⟩), .pointer (some ⟨w.heap.size + 1 + 1, 0, none⟩), .int .i64 (dp : Int), u7, u8, .slice (some ⟨q, f0, none⟩) 1 c, .int .i64 1, .bool false, u12, u13, u14, u15, u16, u17, u18, u19, u20, u21, u22, u23, u24, u25, u26, u27, u28, u29, u30, u31, u32, u33, u34, u35, u36, u37, u38, u39, u40, .slice (some ⟨q, f0, none⟩) 1 c, .int .i64 1, .bool true, .slice (some ⟨q, f0, none⟩) 1 c, .pointer (some ⟨q, f0, none⟩), .pointer (some ⟨q, f0, none⟩), x47, .slice (some ⟨q, f0, none⟩) 1 c, .pointer (some ⟨q, f0, none⟩), .pointer (some ⟨q, f0 + 32, none⟩), x51, .pointer (some ⟨w.heap.size + 1 + 1, 1, none⟩), x53, undef, undef], defers := [] } ∧ Hid (Below w.heap.size w w') ∧ (d 3 = true → x47 = .agg L0.toArray) ∧ (d 7 = true → x51 = .agg S0.toArray) ∧ (d 10 = true → x53 = .pointer (some ⟨w.heap.size + 1 + 1, 2, none⟩)) ∧ Hid (Blk w' (w.heap.size + 1) 38 (proofL (.slice none 0 0) false Z Z)) ∧ Hid (Ow2 w' (w.heap.size + 3) 30 32 v (hashes sd)) ∧ Hid (w'.heap[q]? = wr.heap[q]?) ∧ Hid (Blk w' (w.heap.size + 1 + 1) 38 (proofL v (d 9) (if d 11 = true then L0 else Z) Z))) [3, 7, 9, 10, 11] ?step22 2 5 [3, 7, 9, 10, 11] _ _ _ rfl (by decide) (fun _ h => h) (Fits.of (by kernel_rfl)) ?init22 ?fin22
        case init22 => exact ⟨_, _, _, rfl, W1, fun h => absurd h (by decide), fun h => absurd h (by decide), fun h => absurd h (by decide), BR, OV, HQ, BP⟩
        case step22 =>
          intro i hi d a v22 hI hdi hdeps
          clear HQ
          obtain ⟨x47, x51, x53, rfl, BW, h3, h7, h10, HR, HO, HQ, HP⟩ := hI
          simp only [List.mem_cons, List.not_mem_nil, or_false] at hi
          rcases hi with rfl | rfl | rfl | rfl | rfl
          · refine wpOp_step (o := ?os23) ?hos23 (fun K hK => ?_)
            case hos23 => simp only [zge]; rfl
            refine step_loadW rfl 30 (.tmp 46) rfl q (f0) rfl L0 _ Tryd.underlying30 rfl HIR.out (fun i x hx => (World.cell?_of_block (a := ⟨q, f0 + i, none⟩) HQ.out).trans (HX1.out i x hx)) (hK _ _ ?_)
            clear hK K
            try simp only [zpt]
            exact ⟨_, _, _, rfl, BW, fun _ => rfl, fun a => by first | exact h7 (by simpa using a) | rfl, fun a => by first | exact h10 (by simpa using a) | rfl, HR, HO, HQ, by unfold Hid; simpa using HP.out⟩
          · refine wpOp_step (o := ?os24) ?hos24 (fun K hK => ?_)
            case hos24 => simp only [zge]; rfl
            refine step_loadW rfl 30 (.tmp 50) rfl q (f0 + 32) rfl S0 _ Tryd.underlying30 rfl HIS.out (fun i x hx => (World.cell?_of_block (a := ⟨q, f0 + 32 + i, none⟩) HQ.out).trans (HX2.out i x hx)) (hK _ _ ?_)
            clear hK K
            try simp only [zpt]
            exact ⟨_, _, _, rfl, BW, fun a => by first | exact h3 (by simpa using a) | rfl, fun _ => rfl, fun a => by first | exact h10 (by simpa using a) | rfl, HR, HO, HQ, by unfold Hid; simpa using HP.out⟩
          · have c0 : v22.cell? ⟨w.heap.size + 1 + 1, 1, none⟩ = some (.bool (d 9)) := HP.out.cell 1
            have f0 : v22.frozen? ⟨w.heap.size + 1 + 1, 1, none⟩ = false := HP.out.frozen 1
            refine wpOp_step (o := ?os25) ?hos25 (fun K hK => ?_)
            case hos25 => simp only [zge]; rfl
            go_simp
            refine hK _ _ ?_
            clear hK K
            try simp only [zpt]
            refine ⟨_, _, _, rfl, BW.out.setCell (by show w.heap.size ≤ w.heap.size + 1 + 1; omega) _, fun a => by first | exact h3 (by simpa using a) | rfl, fun a => by first | exact h7 (by simpa using a) | rfl, fun a => by first | exact h10 (by simpa using a) | rfl, HR.out.far (by show w.heap.size + 1 ≠ w.heap.size + 1 + 1; omega) _, HO.out.keep fun m hm => Below.heap_setCell _ _ _ _ (by have := (World.ownsRow.lt HO.out.own m hm).1; show m ≠ w.heap.size + 1 + 1; omega), (Below.heap_setCell _ _ _ _ hqp).trans HQ.out, ?_⟩
            have := HP.out.set_ 1 (.bool true)
            unfold Hid
            simpa [proofL] using this
          · refine wpOp_step (o := ?os26) ?hos26 (fun K hK => ?_)
            case hos26 => simp only [zge]; rfl
            go_simp
            refine hK _ _ ?_
            clear hK K
            try simp only [zpt]
            exact ⟨_, _, _, rfl, BW, fun a => by first | exact h3 (by simpa using a) | rfl, fun a => by first | exact h7 (by simpa using a) | rfl, fun _ => rfl, HR, HO, HQ, by unfold Hid; simpa using HP.out⟩
          · obtain rfl := h3 (hdeps 3 (by simp))
            obtain rfl := h10 (hdeps 10 (by simp))
            have d9 : d 9 = true := hdeps 9 (by simp)
            have HP1 := HP.out
            rw [hdi, d9, if_neg (by decide)] at HP1
            refine wpOp_step (o := ?os27) ?hos27 (fun K hK => ?_)
            case hos27 => simp only [zge]; rfl
            refine step_store rfl 30 (.tmp 53) (.tmp 47) rfl (w.heap.size + 1 + 1) 2 rfl L0 rfl 38 (proofL v true Z Z) HP1 HIR.out (HNL.out true) OL0.out (hK _ _ ?_)
            clear hK K
            try simp only [zpt]
            refine ⟨_, _, _, rfl, below_setRow BW.out (by omega) _, fun a => by first | exact h3 (by simpa using a) | rfl, fun a => by first | exact h7 (by simpa using a) | rfl, fun a => by first | exact h10 (by simpa using a) | rfl, HR.out.rowFar (by omega) _, HO.out.keep fun m hm => setRow_other _ _ _ _ (by have := (World.ownsRow.lt HO.out.own m hm).1; omega), (setRow_other _ _ _ _ hqp).trans HQ.out, ?_⟩
            rw [LBL.out true]
            have := HP1.row (cs' := proofL v true L0 Z)
            unfold Hid
            simpa [d9] using this
        case fin22 =>
          intro a v22 hI
          clear HQ
          obtain ⟨x47, x51, x53, rfl, BW, h3, h7, h10, HR, HO, HQ, HP⟩ := hI
          obtain rfl := h3 (by decide)
          obtain rfl := h7 (by decide)
          obtain rfl := h10 (by decide)
          have HP1 : Hid (Blk v22 (w.heap.size + 1 + 1) 38 (proofL v true L0 Z)) := HP.out
          clear HP BR BP OV W1
          try dsimp only
          refine wpAny_take (i := 12) (oi := ?oi28) (v := .pointer (some ⟨w.heap.size + 1 + 1, 34, none⟩)) ?hi28 (by kernel_rfl) (by kernel_rfl) (by kernel_rfl) ?hQ28 ?hy28 ?rest28
          case hi28 => simp only [zge]; rfl
          case hQ28 => exact fun _ _ _ h => h
          case hy28 => exact Or.inl ⟨by rfl, by intro w; go_simp⟩
          try simp only [zpt]
          refine wpAny_ready (rs := [13]) (by kernel_rfl) (by simp) ?_
          refine AllReady.cons (o := ?p29) ?q29 (fun K hK => ?_) AllReady.nil
          case q29 => simp only [zge]; rfl
          refine step_store rfl 30 (.tmp 54) (.tmp 51) rfl (w.heap.size + 1 + 1) 34 rfl S0 rfl 38 (proofL v true L0 Z) HP1.out HIS.out HNS'.out OS0.out (hK _ _ ?_)
          clear hK K
          try simp only [zpt]
          rw [LSM.out, ← HP0.out]
          have BP2 : Hid (Blk (v22.setRow (w.heap.size + 1 + 1) P0.toArray) (w.heap.size + 1 + 1) 38 P0) := HP1.out.row
          have BR2 : Hid (Blk (v22.setRow (w.heap.size + 1 + 1) P0.toArray) (w.heap.size + 1) 38 (proofL (.slice none 0 0) false Z Z)) := HR.out.rowFar (by omega) _
          have OV2 : Hid (Ow2 (v22.setRow (w.heap.size + 1 + 1) P0.toArray) (w.heap.size + 3) 30 32 v (hashes sd)) := HO.out.keep fun m hm => setRow_other _ _ _ _ (by have := (World.ownsRow.lt HO.out.own m hm).1; omega)
          have W2 : Hid (Below w.heap.size w (v22.setRow (w.heap.size + 1 + 1) P0.toArray)) := below_setRow BW.out (by omega) _
          generalize v22.setRow (w.heap.size + 1 + 1) P0.toArray = w4 at *
          clear HP1 HR HO BW
          refine wpAny_done (by kernel_rfl) ?_ _
          go_wp2_with (first
            | (with_reducible refine load_law rfl 38 (.tmp 5) rfl (w.heap.size + 1 + 1) 0 rfl P0 _ Tryd.underlying38 rfl HI0.out BP2.out.cells ?_)
            | (with_reducible refine storeAll_law rfl 38 (.tmp 4) (.tmp 55) rfl (w.heap.size + 1) rfl P0 rfl 38 (proofL (.slice none 0 0) false Z Z) BR2.out HI0.out HN0.out HO0.out ?_))
          have B6 : Hid (Blk (w4.setRow (w.heap.size + 1) P0.toArray) (w.heap.size + 1) 38 P0) := BR2.out.row
          have OV6 : Hid (Ow2 (w4.setRow (w.heap.size + 1) P0.toArray) w.heap.size 30 32 v (hashes sd)) := (OV2.out.keep fun m hm => setRow_other _ _ _ _ (by have := (World.ownsRow.lt OV2.out.own m hm).1; omega)).base (by omega)
          have W6 : Hid (Below w.heap.size w (w4.setRow (w.heap.size + 1) P0.toArray)) := below_setRow W2.out hle _
          generalize w4.setRow (w.heap.size + 1) P0.toArray = w6 at *
          exact bodyPost_ret (results_cell_row rfl _ _ (w.heap.size + 1) 38 P0.toArray (0, 0) _ rfl B6.out Tryd.underlying38 rfl (by rw [HI0.out]; simp)) rfl ⟨_, rfl, ⟨⟨v, by rw [HP0.out, EL0.out, ES0.out, HEZ.out.1, HEZ.out.2.1, HEZ.out.2.2], by rw [HSS.out]; exact OV6.out⟩, by rw [HEZ.out.2.1]; exact HRL.out.1, by rw [HEZ.out.2.2]; exact HRL.out.2⟩, W6.out⟩
end Go.Proofs.YtmidbpjdpakkoaaDoor
