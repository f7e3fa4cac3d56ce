import Derived.Test.YtmidbpjdpakkoaaDoorSTi
import Derived.Test.YtmidbpjdpakkoaaDoorSTw
namespace Go.Proofs.YtmidbpjdpakkoaaDoor
set_option linter.unusedVariables false
set_option linter.unusedSimpArgs false
set_option maxRecDepth 100000
open Go.RowKit
theorem leaf_parts {p q : Tm.P} (h1 : q.1.length = 32) (h2 : q.2.length = 32) (hp : p.2.length = 32) (he : q.1 = p.1) : (leafL q).take 32 ++ p.2.map cellOf ++ (leafL q).drop (32 + (p.2.map cellOf).length) = leafL p := by
  rw [List.length_map, hp, List.drop_of_length_le (by rw [leafL_length h1 h2]; omega), leafL, List.take_append_of_le_length (by simp [h1]), List.take_of_length_le (by simp [h1]), he, List.append_nil]
  rfl
theorem pairs_set (l : List Tm.P) (k : Nat) (p : Tm.P) : (pairs l).set k (leafL p) = pairs (l.set k p) := by simp [pairs, List.map_set]
set_option maxRecDepth 100000 in
set_option maxHeartbeats 2000000 in
theorem rwith_any {w : World} {A : Option Addr} {n c : Nat} {l : List Tm.P} (hr : Rd2 w 64 A n c (pairs l)) (hl : ∀ p ∈ l, p.1.length = 32 ∧ p.2.length = 32) (hn : n ≤ 900) {p : Tm.P} (hp1 : p.1.length = 32) (hp2 : p.2.length = 32) :
    Calls Tryd.prog 31 #[.slice A n c, .agg (leafL p).toArray] w fun e w' => ∃ v, e = .returned v ∧ Ow2 w' w.heap.size 47 64 v (pairs (Tm.put p l)) ∧ Below w.heap.size w w' := by
  have X1 := Lib.hid (alloc_below w (.cells (leafL p).toArray 47))
  have B1 := Lib.hid (Blk.new w 47 (leafL p))
  have hs1 : w.heap.size + 1 ≤ (w.alloc (.cells (leafL p).toArray 47)).heap.size := by simp
  obtain ⟨v2, w2, hrun, hO2, hG2⟩ := push_all (B := w.heap.size + 1) (ty := 25) (hr.below X1.out) hl (by omega) hs1
  have hln : l.length = n := by rw [← hr.len]; simp [pairs]
  have W2 : Hid (Below w.heap.size w w2) := X1.out.grown hG2 (Nat.le_of_succ_le hs1) (fun m hm => by cases hm)
  have B2 : Hid (Blk w2 w.heap.size 47 (leafL p)) := (hG2.block _ B1.out.lt (by simp)).trans B1.out
  have O2 := Lib.hid hO2
  obtain ⟨A2, c2, hv2, hRz, hAz⟩ := hO2.rd
  clear hRz hAz
  rw [show (pairs l).length = n by simp [pairs, hln]] at hv2
  subst hv2
  have HL := Lib.hid hl
  have IP := Lib.hid (pair_size hp1 hp2)
  have HI2 := Lib.hid (hash_info hp2)
  have HI1 := Lib.hid (hash_info hp1)
  have PROW := Lib.hid (pairRow hp1 hp2)
  have LP1 : Hid (∀ W, Blk W w.heap.size 47 (leafL p) → ∀ j v, (p.1.map cellOf)[j]? = some v → W.cell? ⟨w.heap.size, 0 + j, none⟩ = some v) := fun W hb j v hv => by
    have hj : j < 32 := by have := (List.getElem?_eq_some_iff.1 hv).1; simpa [hp1] using this
    rw [Nat.zero_add, hb.cell, leafL, List.getElem?_append_left (by simpa [hp1] using hj), hv]
  have LP2 : Hid (∀ W, Blk W w.heap.size 47 (leafL p) → ∀ j v, (p.2.map cellOf)[j]? = some v → W.cell? ⟨w.heap.size, 32 + j, none⟩ = some v) := fun W hb j v hv => by
    rw [hb.cell, leafL, List.getElem?_append_right (by simp [hp1]), List.length_map, hp1, Nat.add_sub_cancel_left, hv]
  have EQ : Hid (∀ (r : List UInt8) (W : World), r.length = 32 → (Op.equalIn 10000 30 (.agg (r.map cellOf).toArray) (.agg (p.1.map cellOf).toArray)).run Tryd.prog W = .ok (decide (r = p.1)) W) := fun r W hr => hash_eq r p.1 hr hp1 W
  obtain ⟨L1, hL1⟩ : ∃ L, L = p.1.map cellOf := ⟨_, rfl⟩
  obtain ⟨S1, hS1⟩ : ∃ L, L = p.2.map cellOf := ⟨_, rfl⟩
  rw [← hL1] at LP1 EQ HI1
  rw [← hS1] at LP2 HI2
  have ES1 := Lib.hid hS1
  have OS1 : Hid (∀ u ∈ S1, u.oneCell' = true) := by unfold Hid; rw [hS1]; exact cells_u8 _
  obtain ⟨PL, hPL⟩ : ∃ L, L = leafL p := ⟨_, rfl⟩
  have HPL := Lib.hid hPL
  rw [← hPL] at B2 IP PROW LP1 LP2 B1 X1 hrun ⊢
  clear hr hl hO2 hG2 hL1 hS1 hPL B1 hs1
  go_enter Tryd.func31, Tryd.ntmps31
  go_upto_region 1 with (fail)
  generalize w.alloc (.cells PL.toArray 47) = w1 at *
  go_upto_region 2 with (at_builtin; refine append_law rfl (.const (.slice none 0 0)) (.tmp 7) 25 25 rfl rfl rfl hrun ?_)
  clear hrun X1
  go_wp2_with fail
  go_loopw [6] (fun i wr => ∃ k : Nat, k ≤ n ∧ i = .int .i64 (k : Int) ∧ Hid (∀ j (hj : j < k) (hj' : j < l.length), l[j].1 ≠ p.1) ∧ Hid (Ow2 wr (w.heap.size + 1) 47 64 (.slice A2 n c2) (pairs l)) ∧ Hid (Blk wr w.heap.size 47 PL) ∧ Hid (Below w.heap.size w wr)) (fun i _ => n - (intOf i).toNat)
  case atStart => exact ⟨0, Nat.zero_le _, rfl, fun j hj _ => absurd hj (Nat.not_lt_zero j), O2, B2, W2⟩
  case round =>
    clear O2 B2 W2 w2
    obtain ⟨k, hk, rfl, HNE, O2, B2, W2⟩ := hrel
    by_cases hkn : k < n
    · have hlb : decide ((k : Int) < (n : Int)) = true := by simp; omega
      have hkl : k < l.length := by omega
      have hp0 : 0 < (pairs l).length := by simp [pairs]; omega
      obtain ⟨q, cap, cur, hv, hq, hcur, hc1, hc2, hc3, hc4⟩ := O2.out.blk hp0
      injection hv with hv1 hv2 hv3
      subst hv1
      subst hv3
      clear hv2
      have OC := Lib.hid (And.intro hcur (And.intro hc1 (And.intro hc2 (And.intro hc3 hc4))))
      have hR := O2.out.rd
      obtain ⟨A3, c3, hv, hR, _⟩ := hR
      injection hv with hv1 hv2 hv3
      subst hv1
      subst hv3
      clear hv2
      obtain ⟨b3, f3, hbf, hb3, hk3, hx0, hx1, hx2⟩ := rd2_pair hR HL.out hkl
      injection hbf with hbf
      injection hbf with hbq hbf0
      subst hbq
      subst hbf0
      obtain ⟨o1, ho1⟩ : ∃ o, o = 0 + k * 64 := ⟨_, rfl⟩
      rw [← ho1] at hx0 hx1 hx2
      have HO1 := Lib.hid ho1
      have hi := fun W => index_pair q 0 n c2 k hkn W
      have hlk := HL.out l[k] (List.getElem_mem hkl)
      have HIK := Lib.hid (hash_info hlk.1)
      have EK := Lib.hid fun W => EQ.out l[k].1 W hlk.1
      have hcur1 := OC.out.1
      obtain ⟨LK, hLK⟩ : ∃ L, L = l[k].1.map cellOf := ⟨_, rfl⟩
      rw [← hLK] at HIK EK hx1
      rw [← ho1] at hi
      have HX1 := Lib.hid hx1
      have hBq : q ≠ w.heap.size := by omega
      clear hx0 hx1 hx2 hLK ho1 hR hp0 hk3 hb3
      go_upto_region 5 with (fail)
      refine wp_region_any (by kernel_rfl) ?_
      have HX2 : Hid (∀ j v, LK[j]? = some v → wr.drew.cell? ⟨q, o1 + j, none⟩ = some v) := HX1.out
      replace O2 : Hid (Ow2 wr.drew (w.heap.size + 1) 47 64 (.slice (some ⟨q, 0, none⟩) n c2) (pairs l)) := O2.out.keep fun _ _ => rfl
      replace B2 := Lib.hid B2.out.drew
      replace W2 := Lib.hid W2.out.drew
      have HC1 : Hid (Blk wr.drew q 47 cur) := Blk.drew hcur1
      have HLEN : Hid ((pairs l).length = n) := by unfold Hid; simp [pairs, hln]
      change wpAny _ _ _ _ _ _ _ (World.drew _)
      generalize wr.drew = wd at *
      clear HX1 hcur1
      refine wpAny_take (i := 0) (oi := ?oi1) (v := .slice (some ⟨q, 0, none⟩) n c2) ?hi1 (by kernel_rfl) (by kernel_rfl) (by kernel_rfl) ?hQ1 ?hy1 ?rest1
      case hi1 => simp only [zge]; rfl
      case hQ1 => exact fun _ _ _ h => h
      case hy1 => exact Or.inl ⟨by rfl, by intro w; go_simp⟩
      try simp only [zpt]
      refine wpAny_take (i := 1) (oi := ?oi2) (v := .int .i64 (k : Int)) ?hi2 (by kernel_rfl) (by kernel_rfl) (by kernel_rfl) ?hQ2 ?hy2 ?rest2
      case hi2 => simp only [zge]; rfl
      case hQ2 => exact fun _ _ _ h => h
      case hy2 => exact Or.inl ⟨by rfl, by intro w; go_simp⟩
      try simp only [zpt]
      refine wpAny_take (i := 2) (oi := ?oi3) (v := .pointer (some ⟨q, o1, none⟩)) ?hi3 (by kernel_rfl) (by kernel_rfl) (by kernel_rfl) ?hQ3 ?hy3 ?rest3
      case hi3 => simp only [zge]; rfl
      case hQ3 => exact fun _ _ _ h => h
      case hy3 => exact Or.inl ⟨by rfl, by intro w; go_simp⟩
      try simp only [zpt]
      refine wpAny_take (i := 3) (oi := ?oi4) (v := .pointer (some ⟨q, o1, none⟩)) ?hi4 (by kernel_rfl) (by kernel_rfl) (by kernel_rfl) ?hQ4 ?hy4 ?rest4
      case hi4 => simp only [zge]; rfl
      case hQ4 => exact fun _ _ _ h => h
      case hy4 => exact Or.inl ⟨by rfl, by intro w; go_simp⟩
      try simp only [zpt]
      refine wpAny_take (i := 5) (oi := ?oi5) (v := .pointer (some ⟨w.heap.size, 0, none⟩)) ?hi5 (by kernel_rfl) (by kernel_rfl) (by kernel_rfl) ?hQ5 ?hy5 ?rest5
      case hi5 => simp only [zge]; rfl
      case hQ5 => exact fun _ _ _ h => h
      case hy5 => exact Or.inl ⟨by rfl, by intro w; go_simp⟩
      try simp only [zpt]
      refine phaseL (fun i => []) (fun d a w' => ∃ x19 x21 : Value, a = { tmps := #[.slice A n c, .agg PL.toArray, undef, .pointer (some ⟨w.heap.size, 0, none⟩), u4, .slice (some ⟨q, 0, none⟩) n c2, .int .i64 (k : Int), .slice A n c, .slice (some ⟨q, 0, none⟩) n c2, .int .i64 (k : Int), .slice (some ⟨q, 0, none⟩) n c2, .int .i64 (n : Int), .bool true, u13, u14, .slice (some ⟨q, 0, none⟩) n c2, .int .i64 (k : Int), .pointer (some ⟨q, o1, none⟩), .pointer (some ⟨q, o1, none⟩), x19, .pointer (some ⟨w.heap.size, 0, none⟩), x21, u22, u23, u24, u25, u26, u27, u28, u29, undef, undef, undef, undef], defers := [] } ∧ Hid (Below wd.heap.size wd w') ∧ (d 4 = true → x19 = .agg LK.toArray) ∧ (d 6 = true → x21 = .agg L1.toArray)) [4, 6] ?step6 1 2 [4, 6] _ _ _ rfl (by decide) (fun _ h => h) (Fits.of (by kernel_rfl)) ?init6 ?fin6
      case init6 => refine ⟨_, _, rfl, Below.refl _ _, ?_, ?_⟩ <;> (intro h; exact absurd h (by decide))
      case step6 =>
        intro i hi d a v6 hI hdi hdeps
        obtain ⟨x19, x21, rfl, BW, h4, h6⟩ := hI
        have hsw := BW.out.size
        simp only [List.mem_cons, List.not_mem_nil, or_false] at hi
        rcases hi with rfl | rfl
        · refine wpOp_step (o := ?os7) ?hos7 (fun K hK => ?_)
          case hos7 => simp only [zge]; rfl
          refine step_loadW rfl 30 (.tmp 18) rfl q o1 rfl LK _ Tryd.underlying30 rfl HIK.out (fun j y hy => by rw [(HC1.out.below BW.out HC1.out.lt).cell, ← HC1.out.cell]; exact HX2.out j y hy) (hK _ _ ?_)
          clear hK K
          try simp only [zpt]
          exact ⟨_, _, rfl, BW, fun _ => rfl, fun a => by first | exact h6 (by simpa using a) | rfl⟩
        · refine wpOp_step (o := ?os8) ?hos8 (fun K hK => ?_)
          case hos8 => simp only [zge]; rfl
          refine step_loadW rfl 30 (.tmp 20) rfl w.heap.size 0 rfl L1 _ Tryd.underlying30 rfl HI1.out (LP1.out v6 (B2.out.below BW.out B2.out.lt)) (hK _ _ ?_)
          clear hK K
          try simp only [zpt]
          exact ⟨_, _, rfl, BW, fun a => by first | exact h4 (by simpa using a) | rfl, fun _ => rfl⟩
      case fin6 =>
        intro a v6 hI
        obtain ⟨x19, x21, rfl, BW, h4, h6⟩ := hI
        obtain rfl := h4 (by decide)
        obtain rfl := h6 (by decide)
        have O3 := Lib.hid (O2.out.below BW.out)
        have B3 := Lib.hid (B2.out.below BW.out B2.out.lt)
        have C3 := Lib.hid (HC1.out.below BW.out HC1.out.lt)
        have W3 := Lib.hid (W2.out.trans (BW.out.mono W2.out.size))
        clear O2 B2 W2 HC1 BW HX2
        try dsimp only
        by_cases he : l[k].1 = p.1
        · have HE := Lib.hid he
          have e0 := EK.out
          rw [decide_eq_true he] at e0
          clear he EK
          refine wpAny_take (i := 7) (oi := ?oi9) (v := .bool true) ?hi9 (by kernel_rfl) (by kernel_rfl) (by kernel_rfl) ?hQ9 ?hy9 ?rest9
          case hi9 => simp only [zge]; rfl
          case hQ9 => exact fun _ _ _ h => h
          case hy9 => exact Or.inl ⟨by rfl, by intro w; go_simp⟩
          try simp only [zpt]
          clear e0
          refine wpAny_done (by kernel_rfl) ?_ _
          have HN2 : Hid (o1 + 32 + S1.length ≤ cur.length) := by
            unfold Hid
            have h1 : S1.length = 32 := by rw [ES1.out, List.length_map, hp2]
            have hlen := HLEN.out
            have h2 := OC.out
            have h3 := h2.2.2.2.1
            have h4 := h2.2.1
            have h5 := Nat.mul_le_mul_right 64 (show k + 1 ≤ c2 by omega)
            rw [HO1.out, h1, h3]
            omega
          have LP2' := Lib.hid (LP2.out _ B3.out)
          go_wp2_with (first
            | (with_reducible refine load_law rfl 30 (.tmp 25) rfl w.heap.size 32 rfl S1 _ Tryd.underlying30 rfl HI2.out LP2'.out ?_)
            | (with_reducible refine store_law rfl 30 (.tmp 28) (.tmp 26) rfl q (o1 + 32) rfl S1 rfl 47 cur C3.out HI2.out HN2.out OS1.out ?_))
          go_ret
          have h2 := OC.out
          have hlen := HLEN.out
          have hkp : k < (pairs l).length := by omega
          have O3' := O3.out
          rw [← hlen] at O3'
          have hO := O3'.part hq C3.out h2.2.1 h2.2.2.1 h2.2.2.2.1 h2.2.2.2.2 hkp (o := 32) (vs := S1) (by rw [ES1.out, List.length_map, hp2]; omega)
          rw [hlen] at hO
          have hpk : (pairs l)[k] = leafL l[k] := by simp [pairs]
          rw [show k * 64 + 32 = o1 + 32 by rw [HO1.out]; omega, hpk, ES1.out, leaf_parts hlk.1 hlk.2 hp2 HE.out, pairs_set, ← put_set hkl (fun j hj => HNE.out j hj (by omega)) HE.out, ← ES1.out] at hO
          rw [List.append_assoc] at hO
          exact ⟨_, rfl, hO.base (by omega), below_setRow W3.out (by omega) _⟩
        · have HE := Lib.hid he
          have e0 := EK.out
          rw [decide_eq_false he] at e0
          clear he EK
          refine wpAny_take (i := 7) (oi := ?oi10) (v := .bool false) ?hi10 (by kernel_rfl) (by kernel_rfl) (by kernel_rfl) ?hQ10 ?hy10 ?rest10
          case hi10 => simp only [zge]; rfl
          case hQ10 => exact fun _ _ _ h => h
          case hy10 => exact Or.inl ⟨by rfl, by intro w; go_simp⟩
          try simp only [zpt]
          clear e0
          refine wpAny_done (by kernel_rfl) ?_ _
          have HNE' : Hid (∀ j (hj : j < k + 1) (hj' : j < l.length), l[j].1 ≠ p.1) := fun j hj hj' => by
            rcases Nat.lt_or_ge j k with h | h
            · exact HNE.out j h hj'
            · have : j = k := by omega
              subst this
              exact HE.out
          go_wp2_with fail
          go_roundw
          case rel => exact ⟨k + 1, by omega, by go_num, HNE', O3, B3, W3⟩
          case measure => simp [intOf]; omega
    · obtain rfl : k = n := by omega
      have hlb : decide ((k : Int) < (k : Int)) = false := by simp
      have HEND : Hid (Tm.put p l = l ++ [p]) := put_new fun q hq => by
        obtain ⟨j, hj, rfl⟩ := List.getElem_of_mem hq
        exact HNE.out j (by omega) hj
      go_upto_region 8 with (fail)
      have X3 := Lib.hid (alloc_below wr (.cells PL.toArray 47))
      have hws := B2.out.lt
      have hfold := pair_fold (a := p.1.map cellOf) (b := p.2.map cellOf) (by simpa using hp1) (by simpa using hp2)
      rw [show p.1.map cellOf ++ p.2.map cellOf = PL from HPL.out.symm] at hfold
      have hPLl : PL.length = 64 := by rw [HPL.out, leafL_length hp1 hp2]
      have hbn := Blk.new wr 47 PL
      rw [HPL.out] at hbn
      obtain ⟨v4, w4, hrun4, hO4, hG4, _⟩ := push_pair (ty := 25) (c := 1) (O2.out.below X3.out) (by rw [← HPL.out] at hbn ⊢; exact hbn) hp1 hp2 (by omega) (by simp; omega)
      have OWN := O2.out.own
      have W4 : Below w.heap.size w w4 := (W2.out.trans (X3.out.mono W2.out.size)).grown hG4 (by simp; omega) (fun m hm => by have := (World.ownsRow.lt OWN m hm).1; omega)
      have W4 := Lib.hid W4
      have O4 := Lib.hid hO4
      clear hO4 hG4 OWN hbn
      go_wp2_with (first
        | (with_reducible refine load_law rfl 47 (.tmp 3) rfl w.heap.size 0 rfl PL _ Tryd.underlying47 rfl IP.out B2.out.cells ?_)
        | (at_builtin; refine append_law rfl (.tmp 30) (.tmp 32) 25 25 rfl rfl rfl hrun4 ?_))
      go_ret
      exact ⟨_, rfl, by rw [HEND.out]; exact O4.out.base (by omega), W4.out⟩
end Go.Proofs.YtmidbpjdpakkoaaDoor
