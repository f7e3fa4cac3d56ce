import Derived.Test.YtmidbpjdpakkoaaDoorSTv
namespace Go.Proofs.YtmidbpjdpakkoaaDoor
set_option linter.unusedVariables false
set_option linter.unusedSimpArgs false
set_option maxRecDepth 100000
open Go.RowKit
theorem half_snoc {b : Bool} {d : Nat} {l : List Tm.P} {k : Nat} (hk : k < l.length) : Tm.half b d (l.take (k + 1)) = if Tm.bit l[k].1 d = b then Tm.half b d (l.take k) ++ [l[k]] else Tm.half b d (l.take k) := by
  rw [List.take_add_one, List.getElem?_eq_getElem hk]
  unfold Tm.half
  rw [List.filter_append]
  by_cases h : Tm.bit l[k].1 d = b <;> simp [h]
theorem half_le (b : Bool) (d : Nat) (l : List Tm.P) : (Tm.half b d l).length ≤ l.length := List.length_filter_le _ _
set_option maxRecDepth 100000 in
set_option maxHeartbeats 1000000 in
theorem rhalves_any {w : World} {A : Option Addr} {n c : Nat} {l : List Tm.P} (hr : Rd2 w 64 A n c (pairs l)) (hl : ∀ p ∈ l, p.1.length = 32 ∧ p.2.length = 32) (hn : n ≤ 900) {dp : Nat} (hd : dp < 256) :
    Calls Tryd.prog 39 #[.slice A n c, .int .i64 (dp : Int)] w fun e w' => ∃ u v, e = .returned (.tuple #[u, v]) ∧ Ow2 w' w.heap.size 47 64 u (pairs (Tm.half false dp l)) ∧ Ow2 w' w.heap.size 47 64 v (pairs (Tm.half true dp l)) ∧ Below w.heap.size w w' := by
  have X1 := Lib.hid (alloc_below w (.cells [Value.slice none 0 0, .slice none 0 0].toArray 76))
  have B1 := Lib.hid (Blk.new w 76 [Value.slice none 0 0, .slice none 0 0])
  have hln : l.length = n := by rw [← hr.len]; simp [pairs]
  have HL := Lib.hid hl
  have HR := Lib.hid hr
  have CB : Hid (∀ (p : List UInt8) (W : World), p.length = 32 → Calls Tryd.prog 42 #[hv p, .int .i64 (dp : Int)] W fun e w' => e = .returned (.int .i64 (bitI p dp)) ∧ Below W.heap.size W w') := fun p W hp => rbit_any hp hd W
  clear hr hl
  go_enter Tryd.func39, Tryd.ntmps39
  go_upto_region 2 with (fail)
  change Code.wp _ _ _ _ (w.alloc (.cells [Value.slice none 0 0, .slice none 0 0].toArray 76))
  generalize w.alloc (.cells [Value.slice none 0 0, .slice none 0 0].toArray 76) = w1 at *
  go_wp2_with fail
  go_loopw [7] (fun i wr => ∃ (k : Nat) (u v : Value), k ≤ n ∧ i = .int .i64 (k : Int) ∧ Hid (Blk wr w.heap.size 76 [u, v]) ∧ Hid (Ow2 wr (w.heap.size + 1) 47 64 u (pairs (Tm.half false dp (l.take k)))) ∧ Hid (Ow2 wr (w.heap.size + 1) 47 64 v (pairs (Tm.half true dp (l.take k)))) ∧ Hid (Apart u v) ∧ Hid (Below w.heap.size w wr)) (fun i _ => n - (intOf i).toNat)
  case atStart => exact ⟨0, _, _, Nat.zero_le _, rfl, B1, Ow2.empty _ _ _ _, Ow2.empty _ _ _ _, .inl rfl, X1⟩
  case round =>
    clear B1 X1 w1
    obtain ⟨k, u, v, hk, rfl, B1, OU, OV, AP, W1⟩ := hrel
    by_cases hkn : k < n
    · have hlb : decide ((k : Int) < (n : Int)) = true := by simp; omega
      have hkl : k < l.length := by omega
      obtain ⟨q, f0, rfl, hb3, hk3, hx0, hx1, hx2⟩ := rd2_pair (HR.out.below W1.out) HL.out hkl
      obtain ⟨o1, ho1⟩ : ∃ o, o = f0 + k * 64 := ⟨_, rfl⟩
      rw [← ho1] at hx0 hx1 hx2
      have hi := fun W => index_pair q f0 n c k hkn W
      rw [← ho1] at hi
      have hlk := HL.out l[k] (List.getElem_mem hkl)
      have HIK := Lib.hid (hash_info hlk.1)
      have CK := Lib.hid fun W => CB.out l[k].1 W hlk.1
      obtain ⟨kk, x, y, hkk, hk2, hx, hox, hoy, hapx, hback⟩ : ∃ (kk : Nat) (x y : Value), bitI l[k].1 dp = (kk : Int) ∧ kk < 2 ∧ [u, v][kk]? = some x ∧ Ow2 wr (w.heap.size + 1) 47 64 x (pairs (Tm.half (Tm.bit l[k].1 dp) dp (l.take k))) ∧ Ow2 wr (w.heap.size + 1) 47 64 y (pairs (Tm.half (!Tm.bit l[k].1 dp) dp (l.take k))) ∧ Apart y x ∧
          (∀ (x' : Value) (W : World), Ow2 W (w.heap.size + 1) 47 64 x' (pairs (Tm.half (Tm.bit l[k].1 dp) dp (l.take k) ++ [l[k]])) → Ow2 W (w.heap.size + 1) 47 64 y (pairs (Tm.half (!Tm.bit l[k].1 dp) dp (l.take k))) → Apart y x' → ∃ u' v', [u, v].set kk x' = [u', v'] ∧ Ow2 W (w.heap.size + 1) 47 64 u' (pairs (Tm.half false dp (l.take (k + 1)))) ∧ Ow2 W (w.heap.size + 1) 47 64 v' (pairs (Tm.half true dp (l.take (k + 1)))) ∧ Apart u' v') := by
        unfold bitI
        rw [half_snoc hkl, half_snoc hkl]
        cases hb : Tm.bit l[k].1 dp
        · exact ⟨0, u, v, rfl, by omega, rfl, OU.out, OV.out, AP.out.symm, fun x' W h1 h2 h3 => ⟨x', v, rfl, h1, h2, h3.symm⟩⟩
        · exact ⟨1, v, u, rfl, by omega, rfl, OV.out, OU.out, AP.out, fun x' W h1 h2 h3 => ⟨u, x', rfl, h2, h1, h3⟩⟩
      have OX := Lib.hid hox
      have OY := Lib.hid hoy
      have APX := Lib.hid hapx
      have BACK := Lib.hid hback
      have HX := Lib.hid hx
      rw [hkk] at CK
      obtain ⟨LK, hLK⟩ : ∃ L, L = l[k].1.map cellOf := ⟨_, rfl⟩
      obtain ⟨PK, hPK⟩ : ∃ L, L = leafL l[k] := ⟨_, rfl⟩
      have IPK := Lib.hid (pair_size hlk.1 hlk.2)
      have ROWK := Lib.hid (pairRow hlk.1 hlk.2)
      have HLEN : Hid ((Tm.half (Tm.bit l[k].1 dp) dp (l.take k)).length ≤ 1000) := Nat.le_trans (half_le _ _ _) (by rw [List.length_take]; omega)
      unfold hv at CK
      rw [← hLK] at HIK CK hx1
      rw [← hPK] at hx0 IPK ROWK
      have HPK := Lib.hid hPK
      have HX1 := Lib.hid hx1
      have HX0 : Hid (∀ i x, PK[i]? = some x → wr.cell? ⟨q, o1 + i, none⟩ = some x) := hx0
      have HB3 : Hid (q < w.heap.size) := by
        obtain ⟨b4, f4, e4, h4, _⟩ := rd2_pair HR.out HL.out hkl
        injection e4 with e4
        injection e4 with e4 _
        rw [e4]; exact h4
      have hk2i : ¬ (2 : Int) ≤ (kk : Int) := by omega
      clear hx hox hoy hapx hback hx0 hx1 hx2 hLK hPK ho1 hkk hk3 OU OV AP hb3
      go_upto_region 6 with (first
        | (with_reducible refine load_law rfl 30 (.tmp 18) rfl q o1 rfl LK _ Tryd.underlying30 rfl HIK.out HX1.out ?_)
        | (go_at_call 42; refine (CK.out wr).mono ?_; rintro e w3 ⟨rfl, hX⟩; have X3 := Lib.hid hX; clear hX))
      have h3s := X3.out.size
      have hws := B1.out.lt
      have W3 : Hid (Below w.heap.size w w3.drew) := (W1.out.trans (X3.out.mono W1.out.size)).drew
      replace B1 : Hid (Blk w3.drew w.heap.size 76 [u, v]) := (B1.out.below X3.out hws).drew
      replace OX : Hid (Ow2 w3.drew (w.heap.size + 1) 47 64 x (pairs (Tm.half (Tm.bit l[k].1 dp) dp (l.take k)))) := (OX.out.below X3.out).keep fun _ _ => rfl
      replace OY : Hid (Ow2 w3.drew (w.heap.size + 1) 47 64 y (pairs (Tm.half (!Tm.bit l[k].1 dp) dp (l.take k)))) := (OY.out.below X3.out).keep fun _ _ => rfl
      replace HX0 : Hid (∀ W, Below w.heap.size w W → ∀ i x, PK[i]? = some x → W.cell? ⟨q, o1 + i, none⟩ = some x) := fun W hW i x hx => by
        have := HX0.out i x hx
        rw [World.cell?_of_block (a := ⟨q, o1 + i, none⟩) (W1.out.block q HB3.out)] at this
        rw [World.cell?_of_block (a := ⟨q, o1 + i, none⟩) (hW.block q HB3.out)]
        exact this
      refine wp_region_any (by kernel_rfl) ?_
      change wpAny _ _ _ _ _ _ _ (World.drew _)
      generalize w3.drew = wd at *
      have hwd : w.heap.size < wd.heap.size := B1.out.lt
      clear CK HX1 X3 h3s W1
      refine wpAny_take (i := 0) (oi := ?oi1) (v := .int .i64 (kk : Int)) ?hi1 (by kernel_rfl) (by kernel_rfl) (by kernel_rfl) ?hQ1 ?hy1 ?rest1
      case hi1 => simp only [zge]; rfl
      case hQ1 => exact fun _ _ _ h => h
      case hy1 => exact Or.inl ⟨by rfl, by intro w; go_simp⟩
      try simp only [zpt]
      refine wpAny_take (i := 1) (oi := ?oi2) (v := .int .i64 (kk : Int)) ?hi2 (by kernel_rfl) (by kernel_rfl) (by kernel_rfl) ?hQ2 ?hy2 ?rest2
      case hi2 => simp only [zge]; rfl
      case hQ2 => exact fun _ _ _ h => h
      case hy2 => exact Or.inl ⟨by rfl, by intro w; go_simp⟩
      try simp only [zpt]
      refine wpAny_take (i := 2) (oi := ?oi3) (v := .pointer (some ⟨w.heap.size, kk, none⟩)) ?hi3 (by kernel_rfl) (by kernel_rfl) (by kernel_rfl) ?hQ3 ?hy3 ?rest3
      case hi3 => simp only [zge]; rfl
      case hQ3 => exact fun _ _ _ h => h
      case hy3 => exact Or.inl ⟨by rfl, by intro w; go_simp⟩
      try simp only [zpt]
      refine wpAny_take (i := 4) (oi := ?oi4) (v := .slice (some ⟨q, f0, none⟩) n c) ?hi4 (by kernel_rfl) (by kernel_rfl) (by kernel_rfl) ?hQ4 ?hy4 ?rest4
      case hi4 => simp only [zge]; rfl
      case hQ4 => exact fun _ _ _ h => h
      case hy4 => exact Or.inl ⟨by rfl, by intro w; go_simp⟩
      try simp only [zpt]
      refine wpAny_take (i := 5) (oi := ?oi5) (v := .int .i64 (k : Int)) ?hi5 (by kernel_rfl) (by kernel_rfl) (by kernel_rfl) ?hQ5 ?hy5 ?rest5
      case hi5 => simp only [zge]; rfl
      case hQ5 => exact fun _ _ _ h => h
      case hy5 => exact Or.inl ⟨by rfl, by intro w; go_simp⟩
      try simp only [zpt]
      refine wpAny_take (i := 6) (oi := ?oi6) (v := .pointer (some ⟨q, o1, none⟩)) ?hi6 (by kernel_rfl) (by kernel_rfl) (by kernel_rfl) ?hQ6 ?hy6 ?rest6
      case hi6 => simp only [zge]; rfl
      case hQ6 => exact fun _ _ _ h => h
      case hy6 => exact Or.inl ⟨by rfl, by intro w; go_simp⟩
      try simp only [zpt]
      refine phaseL (fun i => if i = 8 then [7] else []) (fun d a w' => ∃ x25 x29 x30 : Value, a = { tmps := #[.slice (some ⟨q, f0, none⟩) n c, .int .i64 (dp : Int), undef, undef, .slice none 0 0, .slice none 0 0, .pointer (some ⟨w.heap.size, 0, none⟩), .int .i64 (k : Int), .int .i64 (kk : Int), .int .i64 (k : Int), .slice (some ⟨q, f0, none⟩) n c, .int .i64 (n : Int), .bool true, u13, u14, .slice (some ⟨q, f0, none⟩) n c, .int .i64 (k : Int), .pointer (some ⟨q, o1, none⟩), .pointer (some ⟨q, o1, none⟩), .agg LK.toArray, .int .i64 (dp : Int), .int .i64 (kk : Int), .int .i64 (kk : Int), .int .i64 (kk : Int), .pointer (some ⟨w.heap.size, kk, none⟩), x25, .slice (some ⟨q, f0, none⟩) n c, .int .i64 (k : Int), .pointer (some ⟨q, o1, none⟩), x29, x30, u31, u32, undef, undef, undef, undef], defers := [] } ∧ Hid (Below wd.heap.size wd w') ∧ (d 3 = true → x25 = x) ∧ (d 7 = true → x29 = .agg PK.toArray) ∧ (d 8 = true → Hid (RowAt w' wd.heap.size x30 47 PK))) [3, 7, 8] ?step7 3 3 [3, 7, 8] _ _ _ rfl (by decide) (fun _ h => h) (Fits.of (by kernel_rfl)) ?init7 ?fin7
      case init7 => refine ⟨_, _, _, rfl, Below.refl _ _, ?_, ?_, ?_⟩ <;> (intro h; exact absurd h (by decide))
      case step7 =>
        intro i hi d a v7 hI hdi hdeps
        obtain ⟨x25, x29, x30, rfl, BW, h3, h7, h8⟩ := hI
        have hsw := BW.out.size
        simp only [List.mem_cons, List.not_mem_nil, or_false] at hi
        rcases hi with rfl | rfl | rfl
        · have c0 : v7.cell? ⟨w.heap.size, kk, none⟩ = some (x) := by rw [(B1.out.below BW.out B1.out.lt).cell]; exact HX.out
          refine wpOp_step (o := ?os8) ?hos8 (fun K hK => ?_)
          case hos8 => simp only [zge]; rfl
          go_simp
          refine hK _ _ ?_
          clear hK K
          try simp only [zpt]
          exact ⟨_, _, _, rfl, BW, fun _ => rfl, fun a => by first | exact h7 (by simpa using a) | rfl, fun a => h8 (by simpa using a)⟩
        · refine wpOp_step (o := ?os9) ?hos9 (fun K hK => ?_)
          case hos9 => simp only [zge]; rfl
          refine step_loadW rfl 47 (.tmp 28) rfl q o1 rfl PK _ Tryd.underlying47 rfl IPK.out (HX0.out v7 (W3.out.trans (BW.out.mono W3.out.size))) (hK _ _ ?_)
          clear hK K
          try simp only [zpt]
          exact ⟨_, _, _, rfl, BW, fun a => by first | exact h3 (by simpa using a) | rfl, fun _ => rfl, fun a => h8 (by simpa using a)⟩
        · obtain rfl := h7 (hdeps 7 (by simp))
          have hX := alloc_below v7 (.cells PK.toArray 47)
          refine wpOp_step (o := ?os10) ?hos10 (fun K hK => ?_)
          case hos10 => simp only [zge]; rfl
          refine step_bslice rfl 25 1 #[(0, .tmp 29)] rfl (by simp only [List.map_toArray, List.map_cons, List.map_nil]; exact ROWK.out _) (hK _ _ ?_)
          clear hK K
          try simp only [zpt]
          exact ⟨_, _, _, rfl, BW.out.trans (hX.mono hsw), fun a => by first | exact h3 (by simpa using a) | rfl, fun a => by first | exact h7 (by simpa using a) | rfl, fun _ => RowAt.new _ _ _ hsw⟩
      case fin7 =>
        intro a v7 hI
        obtain ⟨x25, x29, x30, rfl, BW, h3, h7, h8⟩ := hI
        obtain rfl := (h3 (by decide)).symm
        obtain rfl := h7 (by decide)
        obtain ⟨g8, rfl, hg8, hQ⟩ := (h8 (by decide)).out
        rw [HPK.out] at hQ
        have h4s := BW.out.size
        obtain ⟨x', w5, hrun, hO5, hG5, hL5⟩ := push_pair (ty := 25) (c := 1) (OX.out.below BW.out) hQ hlk.1 hlk.2 HLEN.out (by omega)
        have OWX := OX.out.own
        have APY : Hid (Apart y x') := by
          rcases hL5 with e | ⟨g', e, hge⟩
          · rcases APX.out with h | h
            · exact .inl h
            · exact .inr (by rw [e]; exact h)
          · refine .inr fun h => ?_
            rw [e] at h
            have := (World.ownsRow.lt (OY.out.below BW.out).own g' h).2
            omega
        have W5 : Hid (Below w.heap.size w w5) := (W3.out.trans (BW.out.mono W3.out.size)).grown hG5 (by omega) (fun m hm => by have := (World.ownsRow.lt OWX m hm).1; omega)
        have B5 : Hid (Blk w5 w.heap.size 76 [u, v]) := (hG5.block _ (by omega) (OX.out.ne B1.out (by decide))).trans (B1.out.below BW.out B1.out.lt)
        have OY5 : Hid (Ow2 w5 (w.heap.size + 1) 47 64 y (pairs (Tm.half (!Tm.bit l[k].1 dp) dp (l.take k)))) := (OY.out.below BW.out).keep fun m hm => hG5.block m (World.ownsRow.lt (OY.out.below BW.out).own m hm).2 (fun e => by
          rcases APX.out with h | h
          · rw [h] at hm; cases hm
          · exact h (by rw [hm, e]))
        obtain ⟨A6, c6, hx6, hRz, hAz⟩ := hO5.rd
        obtain ⟨n6, hn6⟩ : ∃ n, n = (pairs (Tm.half (Tm.bit l[k].1 dp) dp (l.take k) ++ [l[k]])).length := ⟨_, rfl⟩
        rw [← hn6] at hx6
        subst hx6
        have OX5 := Lib.hid hO5
        clear hRz hAz hn6 hO5 hG5 hL5 OWX OX OY B1 W3 BW APX h8 hQ h3 h7
        try dsimp only
        refine wpAny_ready (rs := [9]) (by kernel_rfl) (by simp) ?_
        refine AllReady.cons (o := ?p11) ?q11 (fun K hK => ?_) AllReady.nil
        case q11 => simp only [zge]; rfl
        refine step_append rfl (.tmp 25) (.tmp 30) 25 25 rfl rfl rfl hrun (hK _ _ ?_)
        clear hK K hrun
        try simp only [zpt]
        refine wpAny_take (i := 10) (oi := ?oi12) (v := .pointer (some ⟨w.heap.size, kk, none⟩)) ?hi12 (by kernel_rfl) (by kernel_rfl) (by kernel_rfl) ?hQ12 ?hy12 ?rest12
        case hi12 => simp only [zge]; rfl
        case hQ12 => exact fun _ _ _ h => h
        case hy12 => exact Or.inl ⟨by rfl, by intro w; go_simp⟩
        try simp only [zpt]
        have c5 : w5.cell? ⟨w.heap.size, kk, none⟩ = some x := by rw [B5.out.cell]; exact HX.out
        have f5 : w5.frozen? ⟨w.heap.size, kk, none⟩ = false := B5.out.frozen _
        refine wpAny_ready (rs := [11]) (by kernel_rfl) (by simp) ?_
        refine AllReady.cons (o := ?p13) ?q13 (fun K hK => ?_) AllReady.nil
        case q13 => simp only [zge]; rfl
        go_simp
        refine hK _ _ ?_
        clear hK K
        try simp only [zpt]
        have OX6 : Ow2 (w5.setCell ⟨w.heap.size, kk, none⟩ (.slice A6 n6 c6)) (w.heap.size + 1) 47 64 (.slice A6 n6 c6) (pairs (Tm.half (Tm.bit l[k].1 dp) dp (l.take k) ++ [l[k]])) := OX5.out.keep fun m hm => Below.heap_setCell _ _ _ _ (by have := (World.ownsRow.lt OX5.out.own m hm).1; show m ≠ w.heap.size; omega)
        have OY6 : Ow2 (w5.setCell ⟨w.heap.size, kk, none⟩ (.slice A6 n6 c6)) (w.heap.size + 1) 47 64 y (pairs (Tm.half (!Tm.bit l[k].1 dp) dp (l.take k))) := OY5.out.keep fun m hm => Below.heap_setCell _ _ _ _ (by have := (World.ownsRow.lt OY5.out.own m hm).1; show m ≠ w.heap.size; omega)
        obtain ⟨u', v', hset, hu', hv', hap⟩ := BACK.out _ _ OX6 OY6 APY.out
        have B6 : Hid (Blk (w5.setCell ⟨w.heap.size, kk, none⟩ (.slice A6 n6 c6)) w.heap.size 76 [u', v']) := by
          have := B5.out.set_ kk (.slice A6 n6 c6)
          rw [hset] at this
          exact this
        have U6 := Lib.hid hu'
        have V6 := Lib.hid hv'
        have AP6 := Lib.hid hap
        have W6 : Hid (Below w.heap.size w (w5.setCell ⟨w.heap.size, kk, none⟩ (.slice A6 n6 c6))) := W5.out.setCell (Nat.le_refl _) _
        change wpAny _ _ _ _ _ _ _ (w5.setCell ⟨w.heap.size, kk, none⟩ (.slice A6 n6 c6))
        generalize w5.setCell ⟨w.heap.size, kk, none⟩ (.slice A6 n6 c6) = w6 at *
        clear hset hu' hv' hap OX6 OY6 B5 W5 OX5 OY5 c5 f5 BACK APY HX
        refine wpAny_done (by kernel_rfl) ?_ _
        go_wp2_with fail
        go_roundw
        case rel => exact ⟨k + 1, u', v', by omega, by go_num, B6, U6, V6, AP6, W6⟩
        case measure => simp [intOf]; omega
    · obtain rfl : k = n := by omega
      have hlb : decide ((k : Int) < (k : Int)) = false := by simp
      have HT : Hid (l.take k = l) := by unfold Hid; rw [← hln]; exact List.take_length
      rw [HT.out] at OU OV
      go_upto_region 7 with (fail)
      refine wp_region_any (by kernel_rfl) ?_
      replace B1 := Lib.hid B1.out.drew
      replace W1 := Lib.hid W1.out.drew
      replace OU : Hid (Ow2 wr.drew (w.heap.size + 1) 47 64 u (pairs (Tm.half false dp l))) := OU.out.keep fun _ _ => rfl
      replace OV : Hid (Ow2 wr.drew (w.heap.size + 1) 47 64 v (pairs (Tm.half true dp l))) := OV.out.keep fun _ _ => rfl
      change wpAny _ _ _ _ _ _ _ (World.drew _)
      generalize wr.drew = wd at *
      refine wpAny_take (i := 0) (oi := ?oi14) (v := .pointer (some ⟨w.heap.size, 0, none⟩)) ?hi14 (by kernel_rfl) (by kernel_rfl) (by kernel_rfl) ?hQ14 ?hy14 ?rest14
      case hi14 => simp only [zge]; rfl
      case hQ14 => exact fun _ _ _ h => h
      case hy14 => exact Or.inl ⟨by rfl, by intro w; go_simp⟩
      try simp only [zpt]
      refine wpAny_take (i := 2) (oi := ?oi15) (v := .pointer (some ⟨w.heap.size, 1, none⟩)) ?hi15 (by kernel_rfl) (by kernel_rfl) (by kernel_rfl) ?hQ15 ?hy15 ?rest15
      case hi15 => simp only [zge]; rfl
      case hQ15 => exact fun _ _ _ h => h
      case hy15 => exact Or.inl ⟨by rfl, by intro w; go_simp⟩
      try simp only [zpt]
      refine phaseL (fun i => if i = 4 then [1] else []) (fun d a w' => ∃ x34 x36 x4 : Value, a = { tmps := #[.slice A k c, .int .i64 (dp : Int), undef, undef, x4, .slice none 0 0, .pointer (some ⟨w.heap.size, 0, none⟩), .int .i64 (k : Int), u8, .int .i64 (k : Int), .slice A k c, .int .i64 (k : Int), .bool false, u13, u14, u15, u16, u17, u18, u19, u20, u21, u22, u23, u24, u25, u26, u27, u28, u29, u30, u31, u32, .pointer (some ⟨w.heap.size, 0, none⟩), x34, .pointer (some ⟨w.heap.size, 1, none⟩), x36], defers := [] } ∧ Hid (Below wd.heap.size wd w') ∧ (d 1 = true → x34 = u) ∧ (d 3 = true → x36 = v) ∧ (d 4 = true → x4 = u)) [1, 3, 4] ?step16 1 3 [1, 3, 4] _ _ _ rfl (by decide) (fun _ h => h) (Fits.of (by kernel_rfl)) ?init16 ?fin16
      case init16 => refine ⟨_, _, _, rfl, Below.refl _ _, ?_, ?_, ?_⟩ <;> (intro h; exact absurd h (by decide))
      case step16 =>
        intro i hi d a v16 hI hdi hdeps
        obtain ⟨x34, x36, x4, rfl, BW, h1, h3, h4⟩ := hI
        have hsw := BW.out.size
        simp only [List.mem_cons, List.not_mem_nil, or_false] at hi
        rcases hi with rfl | rfl | rfl
        · have c0 : v16.cell? ⟨w.heap.size, 0, none⟩ = some (u) := (B1.out.below BW.out B1.out.lt).cell 0
          refine wpOp_step (o := ?os17) ?hos17 (fun K hK => ?_)
          case hos17 => simp only [zge]; rfl
          go_simp
          refine hK _ _ ?_
          clear hK K
          try simp only [zpt]
          exact ⟨_, _, _, rfl, BW, fun _ => rfl, fun a => by first | exact h3 (by simpa using a) | rfl, fun a => by first | exact h4 (by simpa using a) | rfl⟩
        · have c0 : v16.cell? ⟨w.heap.size, 1, none⟩ = some (v) := (B1.out.below BW.out B1.out.lt).cell 1
          refine wpOp_step (o := ?os18) ?hos18 (fun K hK => ?_)
          case hos18 => simp only [zge]; rfl
          go_simp
          refine hK _ _ ?_
          clear hK K
          try simp only [zpt]
          exact ⟨_, _, _, rfl, BW, fun a => by first | exact h1 (by simpa using a) | rfl, fun _ => rfl, fun a => by first | exact h4 (by simpa using a) | rfl⟩
        · obtain rfl := h1 (hdeps 1 (by simp))
          refine wpOp_step (o := ?os19) ?hos19 (fun K hK => ?_)
          case hos19 => simp only [zge]; rfl
          go_simp
          refine hK _ _ ?_
          clear hK K
          try simp only [zpt]
          exact ⟨_, _, _, rfl, BW, fun a => by first | exact h1 (by simpa using a) | rfl, fun a => by first | exact h3 (by simpa using a) | rfl, fun _ => rfl⟩
      case fin16 =>
        intro a v16 hI
        obtain ⟨x34, x36, x4, rfl, BW, h1, h3, h4⟩ := hI
        obtain rfl := (h1 (by decide)).symm
        obtain rfl := (h3 (by decide)).symm
        obtain rfl := (h4 (by decide)).symm
        have OU2 := Lib.hid (OU.out.below BW.out)
        have OV2 := Lib.hid (OV.out.below BW.out)
        have W2 := Lib.hid (W1.out.trans (BW.out.mono W1.out.size))
        clear OU OV W1 BW B1
        try dsimp only
        refine wpAny_take (i := 5) (oi := ?oi20) (v := v) ?hi20 (by kernel_rfl) (by kernel_rfl) (by kernel_rfl) ?hQ20 ?hy20 ?rest20
        case hi20 => simp only [zge]; rfl
        case hQ20 => exact fun _ _ _ h => h
        case hy20 => exact Or.inl ⟨by rfl, by intro w; go_simp⟩
        try simp only [zpt]
        refine wpAny_done (by kernel_rfl) ?_ _
        go_wp2_with fail
        go_ret2
        exact ⟨u, v, rfl, OU2.out.base (by omega), OV2.out.base (by omega), W2.out⟩
end Go.Proofs.YtmidbpjdpakkoaaDoor
