/-
  PROVED: for all n, x and b the law MacKeys answers true (keys of every length about a block: one of more than 64 bytes is its sum; noughts behind a shorter one change nothing). CONDITIONS: none beyond the card's own.
-/
import Derived.Test.YtbepofmkfloajaaDoorConv
import Derived.Test.YtbepofmkfloajaaDoorRefMac
import Derived.Test.YtbepofmkfloajaaDoorWhen
import Derived.Test.YtbepofmkfloajaaDoorTie
import Derived.Test.YtbepofmkfloajaaDoorCards
import Derived.OpenShut
import Derived.Stop.Joined
import Derived.SevenTiedAt
namespace Go.Proofs.YtbepofmkfloajaaDoor.macKeys
open Go.ChangeShapes Go.WideShapes Go.ChangeAt Go.RowKit
set_option linter.unusedVariables false
set_option linter.unusedSimpArgs false

theorem one (l : List UInt8) : [l].flatten = l := by simp
theorem hmac_long (k m : List UInt8) (h : 64 < k.length) : Sha.hmac (Sha.sum k) m = Sha.hmac k m := by
  unfold Sha.hmac Sha.keyBlock
  have e1 : Sha.key0 (Sha.sum k) = Sha.sum k := key0_short _ (by rw [Sha.sum_length]; omega)
  rw [e1, key0_long k h]
theorem hmac_zero (k m : List UInt8) (h : k.length < 64) : Sha.hmac (k ++ [0]) m = Sha.hmac k m := by
  unfold Sha.hmac Sha.keyBlock
  rw [key0_short k (by omega), key0_short (k ++ [0]) (by simp; omega)]
  have e : k ++ [0] ++ List.replicate (64 - (k ++ [0]).length) 0 = k ++ List.replicate (64 - k.length) 0 := by
    rw [List.append_assoc, List.singleton_append, ← List.replicate_succ]
    congr 2
    simp
    omega
  rw [e]

set_option maxRecDepth 100000 in
set_option maxHeartbeats 2000000 in
theorem walk_out {A1 : Option Addr} {n1 c1 : Nat} {x1 : List UInt8} (n a1 : Int) (w : World) (hg : Gl w) (hr1 : Rd w A1 n1 c1 x1) (h : n < 0 ∨ 130 < n) :
    Calls Tryd.prog 8 #[.int .i64 n, .int .u8 a1, .slice A1 n1 c1] w fun e w' => e = .returned (.bool true) ∧ Below w.heap.size w w' := by
  have HG := Lib.hid hg
  have R1 := Lib.hid hr1
  clear hg hr1
  go_enter Tryd.func8, Tryd.ntmps8
  go_wp2_with (go_at_call 15; refine (begun_any HG.out).mono ?_; rintro e w1 ⟨rfl, HB⟩; have W1 := Lib.hid HB; clear HB)
  refine (short_any 60 (R1.out.below W1.out) (by omega)).mono ?_
  rintro e w' ⟨A2, n2, c2, rfl, hr2, rfl⟩
  clear hr2
  by_cases h1 : n < 0
  · have hd : decide (n < 0) = true := by simpa using h1
    clear h
    go_wp2_with fail
    go_ret
    exact ⟨rfl, W1.out⟩
  · have hd : decide (n < 0) = false := by simpa using h1
    have h2 : 130 < n := by omega
    have hd2 : decide (130 < n) = true := by simpa using h2
    clear h
    go_wp2_with fail
    go_ret
    exact ⟨rfl, W1.out⟩

set_option maxRecDepth 100000 in
set_option maxHeartbeats 4000000 in
theorem walkIn {A1 : Option Addr} {n1 c1 : Nat} {x1 : List UInt8} (n : Nat) (y : UInt8) (w : World) (hg : Gl w) (hr1 : Rd w A1 n1 c1 x1) (hn : n ≤ 130) :
    Calls Tryd.prog 8 #[.int .i64 (n : Int), .int .u8 (y.toNat : Int), .slice A1 n1 c1] w fun e w' => e = .returned (.bool true) ∧ Below w.heap.size w w' := by
  have HG := Lib.hid hg
  have hsz := hg.size
  have R1 := Lib.hid hr1
  clear hg hr1
  go_enter Tryd.func8, Tryd.ntmps8
  go_wp2_with (go_at_call 15; refine (begun_any HG.out).mono ?_; rintro e w1 ⟨rfl, HB⟩; have W1 := Lib.hid HB; clear HB)
  refine (short_any 60 (R1.out.below W1.out) (by omega)).mono ?_
  rintro e w' ⟨A2, n2, c2, rfl, hr2, rfl⟩
  have R2 := Lib.hid hr2
  clear hr2
  have hl2 : n2 ≤ 60 := by rw [← R2.out.len, List.length_take]; omega
  clear R1
  obtain ⟨b, hbe⟩ : ∃ l, l = x1.take 60 := ⟨_, rfl⟩
  rw [← hbe] at R2
  clear hbe
  have NB := Lib.hid R2.out.len
  have hd : decide ((n : Int) < 0) = false := by simp
  have hd2 : decide ((130 : Int) < (n : Int)) = false := by simp; omega
  have hmk := fun W => make_bytes n (by omega) W
  have hs1 := W1.out.size
  go_wp2_with fail
  clear hmk hd hd2
  go_loopw [9] (fun i wr => ∃ (k : Nat) (l : List UInt8), k ≤ n ∧ i = .int .i64 k ∧ Hid (l.length = k) ∧ Hid (Blk wr w1.heap.size 5 (outC l n)) ∧ Hid (Below w1.heap.size w1 wr)) (fun i _ => n - (intOf i).toNat)
  case atStart => exact ⟨0, [], by omega, rfl, rfl, Blk.at_new _ _ 5 _ _ rfl rfl, alloc_below _ _⟩
  case round =>
    obtain ⟨k, l, hkn, rfl, HK, BK, BW⟩ := hrel
    by_cases hlt : k < n
    · have c0 : wr.cell? ⟨w1.heap.size, k, none⟩ = some (.int .u8 0) := by rw [BK.out.cell]; exact outC_at l n k HK.out hlt
      have f0 : wr.frozen? ⟨w1.heap.size, k, none⟩ = false := BK.out.frozen k
      have d1 : decide ((k : Int) < (n : Int)) = true := by simp; omega
      go_upto_region 10 with (fail)
      obtain ⟨z, hz⟩ : ∃ z : UInt8, (k : Int) * 7 % 256 = (z.toNat : Int) := ⟨UInt8.ofNat (k * 7), by simp⟩
      have hcv : (Value.int IntKind.u8 ((y ^^^ z).toNat : Int)) = cellOf (y ^^^ z) := rfl
      rw [hz, xor_cell, hcv]
      have BN : Hid (Blk (wr.setCell ⟨w1.heap.size, k, none⟩ (cellOf (y ^^^ z))) w1.heap.size 5 (outC (l ++ [y ^^^ z]) n)) := by
        have := BK.out.set_ k (cellOf (y ^^^ z))
        rw [outC_set l n k _ HK.out hlt] at this
        exact this
      clear hz hcv c0 f0 d1
      go_wp2_with fail
      go_roundw
      case rel => exact ⟨k + 1, l ++ [y ^^^ z], by omega, by go_num, by unfold Hid; simp [HK.out], BN, BW.out.setCell (Nat.le_refl _) _⟩
      case measure => simp [intOf]; omega
    · obtain rfl : k = n := by omega
      have d1 : decide ((k : Int) < (k : Int)) = false := by simp
      have KR := Lib.hid (outC_rd BK.out HK.out (by omega))
      have BR := Lib.hid (R2.out.below BW.out)
      have WR := Lib.hid (W1.out.trans (BW.out.mono hs1))
      have GR := Lib.hid (HG.out.below WR.out HG.out.size)
      obtain ⟨gk, hgk⟩ : ∃ gk, gk = w1.heap.size := ⟨_, rfl⟩
      rw [← hgk] at KR
      rw [← hgk]
      clear hgk BK BW W1 R2
      by_cases h64 : 64 < k
      · have d2 : decide ((64 : Int) < (k : Int)) = true := by simp; omega
        go_wp2_with fail
        refine (rsum_any KR.out (by omega)).mono ?_
        rintro e w3 ⟨D, rfl, hS, hX⟩
        have HS := Lib.hid hS
        have HI := Lib.hid hS.info
        have HLN : Hid ((List.replicate 32 (Value.int .u8 0)).length = D.length) := by unfold Hid; rw [hS.len]; rfl
        have H1 := Lib.hid hS.one
        have K3 := Lib.hid (KR.out.below hX)
        have B3 := Lib.hid (BR.out.below hX)
        have W3 := Lib.hid (WR.out.trans (hX.mono WR.out.size))
        clear hS hX KR BR WR GR d1 d2
        go_upto_region 14 with (first
          | ((with_reducible refine storeGen_law rfl 30 (.tmp 10) (.tmp 40) rfl w3.heap.size rfl D rfl 30 (List.replicate 32 (.int .u8 0)) HI.out HLN.out H1.out w3.heap.size w3 ?_ ?_ (Nat.le_refl _) ?_)
             · exact Blk.at_new _ _ 30 _ _ (by rfl) rfl
             · exact (Below.refl _ _).alloc (Nat.le_refl _) _
             intro w4 Z4 X4))
        have K2 : Hid (Rd w4.drew (some ⟨gk, 0, none⟩) k k l) := (K3.out.below X4.out).drew
        have B2 : Hid (Rd w4.drew A2 n2 c2 b) := (B3.out.below X4.out).drew
        have Q2 : Hid (Rd w4.drew (some ⟨w3.heap.size, 0, none⟩) 32 32 (Sha.sum l)) := (HS.out.rd Z4.out).drew
        have W2 : Hid (Below w.heap.size w w4.drew) := (W3.out.trans (X4.out.mono W3.out.size)).drew
        have G2 := Lib.hid (HG.out.below W2.out HG.out.size)
        have HLG := Lib.hid (hmac_long l b (by rw [HK.out]; exact h64))
        obtain ⟨gz, hgz⟩ : ∃ gz, gz = w3.heap.size := ⟨_, rfl⟩
        rw [← hgz] at Q2
        rw [← hgz]
        clear hgz K3 B3 W3 Z4 X4 HI HLN H1 HS
        refine wp_region_any (by kernel_rfl) ?_
        change wpAny _ _ _ _ _ _ _ (World.drew _)
        generalize w4.drew = w2 at *
        refine wpAny_take (i := 0) (oi := ?oi1) (v := .slice (some ⟨gk, 0, none⟩) k k) ?hi1 (by kernel_rfl) (by kernel_rfl) (by kernel_rfl) ?hQ1 ?hy1 ?rest1
        case hi1 => simp only [List.getElem?_toArray, List.getElem?_cons_succ, List.getElem?_cons_zero]; rfl
        case hQ1 => exact fun _ _ _ h => h
        case hy1 => exact Or.inl ⟨by rfl, by intro w; go_simp⟩
        try simp only [Act.put, List.setIfInBounds_toArray, List.set_cons_zero, List.set_cons_succ]
        refine wpAny_take (i := 1) (oi := ?oi2) (v := .slice A2 n2 c2) ?hi2 (by kernel_rfl) (by kernel_rfl) (by kernel_rfl) ?hQ2 ?hy2 ?rest2
        case hi2 => simp only [List.getElem?_toArray, List.getElem?_cons_succ, List.getElem?_cons_zero]; rfl
        case hQ2 => exact fun _ _ _ h => h
        case hy2 => exact Or.inl ⟨by rfl, by intro w; go_simp⟩
        try simp only [Act.put, List.setIfInBounds_toArray, List.set_cons_zero, List.set_cons_succ]
        refine wpAny_take (i := 4) (oi := ?oi3) (v := .slice (some ⟨gz, 0, none⟩) 32 32) ?hi3 (by kernel_rfl) (by kernel_rfl) (by kernel_rfl) ?hQ3 ?hy3 ?rest3
        case hi3 => simp only [List.getElem?_toArray, List.getElem?_cons_succ, List.getElem?_cons_zero]; rfl
        case hQ3 => exact fun _ _ _ h => h
        case hy3 => exact Or.inl ⟨by rfl, by intro w; go_simp⟩
        try simp only [Act.put, List.setIfInBounds_toArray, List.set_cons_zero, List.set_cons_succ]
        refine wpAny_take (i := 5) (oi := ?oi4) (v := .slice A2 n2 c2) ?hi4 (by kernel_rfl) (by kernel_rfl) (by kernel_rfl) ?hQ4 ?hy4 ?rest4
        case hi4 => simp only [List.getElem?_toArray, List.getElem?_cons_succ, List.getElem?_cons_zero]; rfl
        case hQ4 => exact fun _ _ _ h => h
        case hy4 => exact Or.inl ⟨by rfl, by intro w; go_simp⟩
        try simp only [Act.put, List.setIfInBounds_toArray, List.set_cons_zero, List.set_cons_succ]
        refine wpAny_ready (rs := [2, 6]) (by kernel_rfl) (by simp) ?_
        refine AllReady.cons (o := ?o5) ?ho5 (fun K hK => ?_) ?more5
        case ho5 => simp only [List.getElem?_toArray, List.getElem?_cons_succ, List.getElem?_cons_zero]; rfl
        · go_simp
          refine hK _ _ ?_
          clear hK K
          have X101 := Lib.hid (alloc_below w2 (.cells #[.slice A2 n2 c2] 23))
          have PA101 := Lib.hid (lit_parts1' (g := w2.heap.size) w2 B2.out rfl)
          generalize w2.alloc (.cells #[.slice A2 n2 c2] 23) = w101 at *
          try simp only [Act.put, List.setIfInBounds_toArray, List.set_cons_zero, List.set_cons_succ]
          have W101 := Lib.hid (W2.out.trans (X101.out.mono W2.out.size))
          have G101 := Lib.hid (G2.out.below (X101.out.mono (Nat.le_refl _)) G2.out.size)
          have K101 := Lib.hid (K2.out.below (X101.out))
          have B101 := Lib.hid (B2.out.below (X101.out))
          have Q101 := Lib.hid (Q2.out.below (X101.out))
          clear W2 G2 K2 B2 Q2 
          clear X101
          refine wpAny_ready (rs := [3, 6]) (by kernel_rfl) (by simp) ?_
          refine AllReady.cons (o := ?o6) ?ho6 (fun K hK => ?_) ?more6
          case ho6 => simp only [List.getElem?_toArray, List.getElem?_cons_succ, List.getElem?_cons_zero]; rfl
          · go_simp
            refine (hmac_any G101.out K101.out (by omega) PA101.out (by omega) (by rw [one, NB.out]; omega)).mono ?_
            rintro e w102 ⟨D102, rfl, hS, hX⟩
            rw [one] at hS
            have SM := Lib.hid hS
            clear hS
            clear PA101
            have W102 := Lib.hid (W101.out.trans (hX.mono W101.out.size))
            have G102 := Lib.hid (G101.out.below (hX.mono (Nat.le_refl _)) G101.out.size)
            have K102 := Lib.hid (K101.out.below (hX))
            have B102 := Lib.hid (B101.out.below (hX))
            have Q102 := Lib.hid (Q101.out.below (hX))
            clear W101 G101 K101 B101 Q101 
            clear hX
            refine hK _ _ ?_
            clear hK K
            try simp only [Act.put, List.setIfInBounds_toArray, List.set_cons_zero, List.set_cons_succ]
            refine wpAny_ready (rs := [6]) (by kernel_rfl) (by simp) ?_
            refine AllReady.cons (o := ?o7) ?ho7 (fun K hK => ?_) AllReady.nil
            case ho7 => simp only [List.getElem?_toArray, List.getElem?_cons_succ, List.getElem?_cons_zero]; rfl
            go_simp
            refine hK _ _ ?_
            clear hK K
            have X103 := Lib.hid (alloc_below w102 (.cells #[.slice A2 n2 c2] 23))
            have PB103 := Lib.hid (lit_parts1' (g := w102.heap.size) w102 B102.out rfl)
            generalize w102.alloc (.cells #[.slice A2 n2 c2] 23) = w103 at *
            try simp only [Act.put, List.setIfInBounds_toArray, List.set_cons_zero, List.set_cons_succ]
            have W103 := Lib.hid (W102.out.trans (X103.out.mono W102.out.size))
            have G103 := Lib.hid (G102.out.below (X103.out.mono (Nat.le_refl _)) G102.out.size)
            have K103 := Lib.hid (K102.out.below (X103.out))
            have B103 := Lib.hid (B102.out.below (X103.out))
            have Q103 := Lib.hid (Q102.out.below (X103.out))
            clear W102 G102 K102 B102 Q102 
            clear X103
            refine wpAny_ready (rs := [7]) (by kernel_rfl) (by simp) ?_
            refine AllReady.cons (o := ?o8) ?ho8 (fun K hK => ?_) AllReady.nil
            case ho8 => simp only [List.getElem?_toArray, List.getElem?_cons_succ, List.getElem?_cons_zero]; rfl
            go_simp
            refine (hmac_any G103.out Q103.out (by omega) PB103.out (by omega) (by rw [one, NB.out]; omega)).mono ?_
            rintro e w104 ⟨D104, rfl, hS, hX⟩
            rw [one] at hS
            unfold Maced at hS
            rw [HLG.out] at hS
            obtain rfl := SM.out.uniq hS
            clear hS
            have hqm := fun W => SM.out.self W
            clear PB103
            have W104 := Lib.hid (W103.out.trans (hX.mono W103.out.size))
            have G104 := Lib.hid (G103.out.below (hX.mono (Nat.le_refl _)) G103.out.size)
            have K104 := Lib.hid (K103.out.below (hX))
            have B104 := Lib.hid (B103.out.below (hX))
            have Q104 := Lib.hid (Q103.out.below (hX))
            clear W103 G103 K103 B103 Q103 
            clear hX
            refine hK _ _ ?_
            clear hK K
            try simp only [Act.put, List.setIfInBounds_toArray, List.set_cons_zero, List.set_cons_succ]
            refine wpAny_take (i := 8) (oi := ?oi9) (v := .bool true) ?hi9 (by kernel_rfl) (by kernel_rfl) (by kernel_rfl) ?hQ9 ?hy9 ?rest9
            case hi9 => simp only [List.getElem?_toArray, List.getElem?_cons_succ, List.getElem?_cons_zero]; rfl
            case hQ9 => exact fun _ _ _ h => h
            case hy9 => exact Or.inl ⟨by rfl, by intro w; go_simp⟩
            try simp only [Act.put, List.setIfInBounds_toArray, List.set_cons_zero, List.set_cons_succ]
            refine wpAny_take (i := 9) (oi := ?oi10) (v := .bool true) ?hi10 (by kernel_rfl) (by kernel_rfl) (by kernel_rfl) ?hQ10 ?hy10 ?rest10
            case hi10 => simp only [List.getElem?_toArray, List.getElem?_cons_succ, List.getElem?_cons_zero]; rfl
            case hQ10 => exact fun _ _ _ h => h
            case hy10 => exact Or.inl ⟨by rfl, by intro w; go_simp⟩
            try simp only [Act.put, List.setIfInBounds_toArray, List.set_cons_zero, List.set_cons_succ]
            refine wpAny_take (i := 10) (oi := ?oi11) (v := .slice (some ⟨gk, 0, none⟩) k k) ?hi11 (by kernel_rfl) (by kernel_rfl) (by kernel_rfl) ?hQ11 ?hy11 ?rest11
            case hi11 => simp only [List.getElem?_toArray, List.getElem?_cons_succ, List.getElem?_cons_zero]; rfl
            case hQ11 => exact fun _ _ _ h => h
            case hy11 => exact Or.inl ⟨by rfl, by intro w; go_simp⟩
            try simp only [Act.put, List.setIfInBounds_toArray, List.set_cons_zero, List.set_cons_succ]
            refine wpAny_take (i := 11) (oi := ?oi12) (v := .slice A2 n2 c2) ?hi12 (by kernel_rfl) (by kernel_rfl) (by kernel_rfl) ?hQ12 ?hy12 ?rest12
            case hi12 => simp only [List.getElem?_toArray, List.getElem?_cons_succ, List.getElem?_cons_zero]; rfl
            case hQ12 => exact fun _ _ _ h => h
            case hy12 => exact Or.inl ⟨by rfl, by intro w; go_simp⟩
            try simp only [Act.put, List.setIfInBounds_toArray, List.set_cons_zero, List.set_cons_succ]
            refine wpAny_take (i := 14) (oi := ?oi13) (v := .slice (some ⟨gk, 0, none⟩) k k) ?hi13 (by kernel_rfl) (by kernel_rfl) (by kernel_rfl) ?hQ13 ?hy13 ?rest13
            case hi13 => simp only [List.getElem?_toArray, List.getElem?_cons_succ, List.getElem?_cons_zero]; rfl
            case hQ13 => exact fun _ _ _ h => h
            case hy13 => exact Or.inl ⟨by rfl, by intro w; go_simp⟩
            try simp only [Act.put, List.setIfInBounds_toArray, List.set_cons_zero, List.set_cons_succ]
            refine wpAny_take (i := 15) (oi := ?oi14) (v := .slice A2 n2 c2) ?hi14 (by kernel_rfl) (by kernel_rfl) (by kernel_rfl) ?hQ14 ?hy14 ?rest14
            case hi14 => simp only [List.getElem?_toArray, List.getElem?_cons_succ, List.getElem?_cons_zero]; rfl
            case hQ14 => exact fun _ _ _ h => h
            case hy14 => exact Or.inl ⟨by rfl, by intro w; go_simp⟩
            try simp only [Act.put, List.setIfInBounds_toArray, List.set_cons_zero, List.set_cons_succ]
            refine wpAny_ready (rs := [12]) (by kernel_rfl) (by simp) ?_
            refine AllReady.cons (o := ?o15) ?ho15 (fun K hK => ?_) AllReady.nil
            case ho15 => simp only [List.getElem?_toArray, List.getElem?_cons_succ, List.getElem?_cons_zero]; rfl
            go_simp
            refine hK _ _ ?_
            clear hK K
            have X105 := Lib.hid (alloc_below w104 (.cells #[.slice A2 n2 c2] 23))
            have P105 := Lib.hid (lit_parts1' (g := w104.heap.size) w104 B104.out rfl)
            generalize w104.alloc (.cells #[.slice A2 n2 c2] 23) = w105 at *
            try simp only [Act.put, List.setIfInBounds_toArray, List.set_cons_zero, List.set_cons_succ]
            have W105 := Lib.hid (W104.out.trans (X105.out.mono W104.out.size))
            have G105 := Lib.hid (G104.out.below (X105.out.mono (Nat.le_refl _)) G104.out.size)
            have K105 := Lib.hid (K104.out.below (X105.out))
            have B105 := Lib.hid (B104.out.below (X105.out))
            have Q105 := Lib.hid (Q104.out.below (X105.out))
            clear W104 G104 K104 B104 Q104 
            clear X105
            refine wpAny_ready (rs := [13]) (by kernel_rfl) (by simp) ?_
            refine AllReady.cons (o := ?o16) ?ho16 (fun K hK => ?_) AllReady.nil
            case ho16 => simp only [List.getElem?_toArray, List.getElem?_cons_succ, List.getElem?_cons_zero]; rfl
            go_simp
            refine (hmac_any G105.out K105.out (by omega) P105.out (by omega) (by rw [one, NB.out]; omega)).mono ?_
            rintro e w106 ⟨D106, rfl, hS, hX⟩
            rw [one] at hS
            obtain rfl := SM.out.uniq hS
            clear hS
            clear P105
            have W106 := Lib.hid (W105.out.trans (hX.mono W105.out.size))
            have G106 := Lib.hid (G105.out.below (hX.mono (Nat.le_refl _)) G105.out.size)
            have K106 := Lib.hid (K105.out.below (hX))
            have B106 := Lib.hid (B105.out.below (hX))
            have Q106 := Lib.hid (Q105.out.below (hX))
            clear W105 G105 K105 B105 Q105 
            clear hX
            refine hK _ _ ?_
            clear hK K
            try simp only [Act.put, List.setIfInBounds_toArray, List.set_cons_zero, List.set_cons_succ]
            refine wpAny_ready (rs := [16]) (by kernel_rfl) (by simp) ?_
            refine AllReady.cons (o := ?o17) ?ho17 (fun K hK => ?_) AllReady.nil
            case ho17 => simp only [List.getElem?_toArray, List.getElem?_cons_succ, List.getElem?_cons_zero]; rfl
            go_simp
            refine (rhmac_any K106.out (by omega) B106.out (by omega)).mono ?_
            rintro e w107 ⟨D107, rfl, hS, hX⟩
            obtain rfl := SM.out.uniq hS
            clear hS
            have W107 := Lib.hid (W106.out.trans (hX.mono W106.out.size))
            have G107 := Lib.hid (G106.out.below (hX.mono (Nat.le_refl _)) G106.out.size)
            have K107 := Lib.hid (K106.out.below (hX))
            have B107 := Lib.hid (B106.out.below (hX))
            have Q107 := Lib.hid (Q106.out.below (hX))
            clear W106 G106 K106 B106 Q106 
            clear hX
            refine hK _ _ ?_
            clear hK K
            try simp only [Act.put, List.setIfInBounds_toArray, List.set_cons_zero, List.set_cons_succ]
            refine wpAny_take (i := 17) (oi := ?oi18) (v := .bool true) ?hi18 (by kernel_rfl) (by kernel_rfl) (by kernel_rfl) ?hQ18 ?hy18 ?rest18
            case hi18 => simp only [List.getElem?_toArray, List.getElem?_cons_succ, List.getElem?_cons_zero]; rfl
            case hQ18 => exact fun _ _ _ h => h
            case hy18 => exact Or.inl ⟨by rfl, by intro w; go_simp⟩
            try simp only [Act.put, List.setIfInBounds_toArray, List.set_cons_zero, List.set_cons_succ]
            refine wpAny_take (i := 18) (oi := ?oi19) (v := .bool true) ?hi19 (by kernel_rfl) (by kernel_rfl) (by kernel_rfl) ?hQ19 ?hy19 ?rest19
            case hi19 => simp only [List.getElem?_toArray, List.getElem?_cons_succ, List.getElem?_cons_zero]; rfl
            case hQ19 => exact fun _ _ _ h => h
            case hy19 => exact Or.inl ⟨by rfl, by intro w; go_simp⟩
            try simp only [Act.put, List.setIfInBounds_toArray, List.set_cons_zero, List.set_cons_succ]
            refine wpAny_take (i := 19) (oi := ?oi20) (v := .bool true) ?hi20 (by kernel_rfl) (by kernel_rfl) (by kernel_rfl) ?hQ20 ?hy20 ?rest20
            case hi20 => simp only [List.getElem?_toArray, List.getElem?_cons_succ, List.getElem?_cons_zero]; rfl
            case hQ20 => exact fun _ _ _ h => h
            case hy20 => exact Or.inl ⟨by rfl, by intro w; go_simp⟩
            try simp only [Act.put, List.setIfInBounds_toArray, List.set_cons_zero, List.set_cons_succ]
            refine wpAny_done (by kernel_rfl) ?_ _
            clear hqm
            go_wp2_with fail
            go_ret
            exact ⟨rfl, W107.out⟩
          refine AllReady.cons (o := ?o21) ?ho21 (fun K hK => ?_) AllReady.nil
          case ho21 => simp only [List.getElem?_toArray, List.getElem?_cons_succ, List.getElem?_cons_zero]; rfl
          go_simp
          refine hK _ _ ?_
          clear hK K
          have X108 := Lib.hid (alloc_below w101 (.cells #[.slice A2 n2 c2] 23))
          have PB108 := Lib.hid (lit_parts1' (g := w101.heap.size) w101 B101.out rfl)
          generalize w101.alloc (.cells #[.slice A2 n2 c2] 23) = w108 at *
          try simp only [Act.put, List.setIfInBounds_toArray, List.set_cons_zero, List.set_cons_succ]
          have W108 := Lib.hid (W101.out.trans (X108.out.mono W101.out.size))
          have G108 := Lib.hid (G101.out.below (X108.out.mono (Nat.le_refl _)) G101.out.size)
          have K108 := Lib.hid (K101.out.below (X108.out))
          have B108 := Lib.hid (B101.out.below (X108.out))
          have Q108 := Lib.hid (Q101.out.below (X108.out))
          have PA108 := Lib.hid (PA101.out.below (X108.out))
          clear W101 G101 K101 B101 Q101 PA101
          clear X108
          refine wpAny_ready (rs := [3]) (by kernel_rfl) (by simp) ?_
          refine AllReady.cons (o := ?o22) ?ho22 (fun K hK => ?_) AllReady.nil
          case ho22 => simp only [List.getElem?_toArray, List.getElem?_cons_succ, List.getElem?_cons_zero]; rfl
          go_simp
          refine (hmac_any G108.out K108.out (by omega) PA108.out (by omega) (by rw [one, NB.out]; omega)).mono ?_
          rintro e w109 ⟨D109, rfl, hS, hX⟩
          rw [one] at hS
          have SM := Lib.hid hS
          clear hS
          clear PA108
          have W109 := Lib.hid (W108.out.trans (hX.mono W108.out.size))
          have G109 := Lib.hid (G108.out.below (hX.mono (Nat.le_refl _)) G108.out.size)
          have K109 := Lib.hid (K108.out.below (hX))
          have B109 := Lib.hid (B108.out.below (hX))
          have Q109 := Lib.hid (Q108.out.below (hX))
          have PB109 := Lib.hid (PB108.out.below (hX))
          clear W108 G108 K108 B108 Q108 PB108
          clear hX
          refine hK _ _ ?_
          clear hK K
          try simp only [Act.put, List.setIfInBounds_toArray, List.set_cons_zero, List.set_cons_succ]
          refine wpAny_ready (rs := [7]) (by kernel_rfl) (by simp) ?_
          refine AllReady.cons (o := ?o23) ?ho23 (fun K hK => ?_) AllReady.nil
          case ho23 => simp only [List.getElem?_toArray, List.getElem?_cons_succ, List.getElem?_cons_zero]; rfl
          go_simp
          refine (hmac_any G109.out Q109.out (by omega) PB109.out (by omega) (by rw [one, NB.out]; omega)).mono ?_
          rintro e w110 ⟨D110, rfl, hS, hX⟩
          rw [one] at hS
          unfold Maced at hS
          rw [HLG.out] at hS
          obtain rfl := SM.out.uniq hS
          clear hS
          have hqm := fun W => SM.out.self W
          clear PB109
          have W110 := Lib.hid (W109.out.trans (hX.mono W109.out.size))
          have G110 := Lib.hid (G109.out.below (hX.mono (Nat.le_refl _)) G109.out.size)
          have K110 := Lib.hid (K109.out.below (hX))
          have B110 := Lib.hid (B109.out.below (hX))
          have Q110 := Lib.hid (Q109.out.below (hX))
          clear W109 G109 K109 B109 Q109 
          clear hX
          refine hK _ _ ?_
          clear hK K
          try simp only [Act.put, List.setIfInBounds_toArray, List.set_cons_zero, List.set_cons_succ]
          refine wpAny_take (i := 8) (oi := ?oi24) (v := .bool true) ?hi24 (by kernel_rfl) (by kernel_rfl) (by kernel_rfl) ?hQ24 ?hy24 ?rest24
          case hi24 => simp only [List.getElem?_toArray, List.getElem?_cons_succ, List.getElem?_cons_zero]; rfl
          case hQ24 => exact fun _ _ _ h => h
          case hy24 => exact Or.inl ⟨by rfl, by intro w; go_simp⟩
          try simp only [Act.put, List.setIfInBounds_toArray, List.set_cons_zero, List.set_cons_succ]
          refine wpAny_take (i := 9) (oi := ?oi25) (v := .bool true) ?hi25 (by kernel_rfl) (by kernel_rfl) (by kernel_rfl) ?hQ25 ?hy25 ?rest25
          case hi25 => simp only [List.getElem?_toArray, List.getElem?_cons_succ, List.getElem?_cons_zero]; rfl
          case hQ25 => exact fun _ _ _ h => h
          case hy25 => exact Or.inl ⟨by rfl, by intro w; go_simp⟩
          try simp only [Act.put, List.setIfInBounds_toArray, List.set_cons_zero, List.set_cons_succ]
          refine wpAny_take (i := 10) (oi := ?oi26) (v := .slice (some ⟨gk, 0, none⟩) k k) ?hi26 (by kernel_rfl) (by kernel_rfl) (by kernel_rfl) ?hQ26 ?hy26 ?rest26
          case hi26 => simp only [List.getElem?_toArray, List.getElem?_cons_succ, List.getElem?_cons_zero]; rfl
          case hQ26 => exact fun _ _ _ h => h
          case hy26 => exact Or.inl ⟨by rfl, by intro w; go_simp⟩
          try simp only [Act.put, List.setIfInBounds_toArray, List.set_cons_zero, List.set_cons_succ]
          refine wpAny_take (i := 11) (oi := ?oi27) (v := .slice A2 n2 c2) ?hi27 (by kernel_rfl) (by kernel_rfl) (by kernel_rfl) ?hQ27 ?hy27 ?rest27
          case hi27 => simp only [List.getElem?_toArray, List.getElem?_cons_succ, List.getElem?_cons_zero]; rfl
          case hQ27 => exact fun _ _ _ h => h
          case hy27 => exact Or.inl ⟨by rfl, by intro w; go_simp⟩
          try simp only [Act.put, List.setIfInBounds_toArray, List.set_cons_zero, List.set_cons_succ]
          refine wpAny_take (i := 14) (oi := ?oi28) (v := .slice (some ⟨gk, 0, none⟩) k k) ?hi28 (by kernel_rfl) (by kernel_rfl) (by kernel_rfl) ?hQ28 ?hy28 ?rest28
          case hi28 => simp only [List.getElem?_toArray, List.getElem?_cons_succ, List.getElem?_cons_zero]; rfl
          case hQ28 => exact fun _ _ _ h => h
          case hy28 => exact Or.inl ⟨by rfl, by intro w; go_simp⟩
          try simp only [Act.put, List.setIfInBounds_toArray, List.set_cons_zero, List.set_cons_succ]
          refine wpAny_take (i := 15) (oi := ?oi29) (v := .slice A2 n2 c2) ?hi29 (by kernel_rfl) (by kernel_rfl) (by kernel_rfl) ?hQ29 ?hy29 ?rest29
          case hi29 => simp only [List.getElem?_toArray, List.getElem?_cons_succ, List.getElem?_cons_zero]; rfl
          case hQ29 => exact fun _ _ _ h => h
          case hy29 => exact Or.inl ⟨by rfl, by intro w; go_simp⟩
          try simp only [Act.put, List.setIfInBounds_toArray, List.set_cons_zero, List.set_cons_succ]
          refine wpAny_ready (rs := [12]) (by kernel_rfl) (by simp) ?_
          refine AllReady.cons (o := ?o30) ?ho30 (fun K hK => ?_) AllReady.nil
          case ho30 => simp only [List.getElem?_toArray, List.getElem?_cons_succ, List.getElem?_cons_zero]; rfl
          go_simp
          refine hK _ _ ?_
          clear hK K
          have X111 := Lib.hid (alloc_below w110 (.cells #[.slice A2 n2 c2] 23))
          have P111 := Lib.hid (lit_parts1' (g := w110.heap.size) w110 B110.out rfl)
          generalize w110.alloc (.cells #[.slice A2 n2 c2] 23) = w111 at *
          try simp only [Act.put, List.setIfInBounds_toArray, List.set_cons_zero, List.set_cons_succ]
          have W111 := Lib.hid (W110.out.trans (X111.out.mono W110.out.size))
          have G111 := Lib.hid (G110.out.below (X111.out.mono (Nat.le_refl _)) G110.out.size)
          have K111 := Lib.hid (K110.out.below (X111.out))
          have B111 := Lib.hid (B110.out.below (X111.out))
          have Q111 := Lib.hid (Q110.out.below (X111.out))
          clear W110 G110 K110 B110 Q110 
          clear X111
          refine wpAny_ready (rs := [13]) (by kernel_rfl) (by simp) ?_
          refine AllReady.cons (o := ?o31) ?ho31 (fun K hK => ?_) AllReady.nil
          case ho31 => simp only [List.getElem?_toArray, List.getElem?_cons_succ, List.getElem?_cons_zero]; rfl
          go_simp
          refine (hmac_any G111.out K111.out (by omega) P111.out (by omega) (by rw [one, NB.out]; omega)).mono ?_
          rintro e w112 ⟨D112, rfl, hS, hX⟩
          rw [one] at hS
          obtain rfl := SM.out.uniq hS
          clear hS
          clear P111
          have W112 := Lib.hid (W111.out.trans (hX.mono W111.out.size))
          have G112 := Lib.hid (G111.out.below (hX.mono (Nat.le_refl _)) G111.out.size)
          have K112 := Lib.hid (K111.out.below (hX))
          have B112 := Lib.hid (B111.out.below (hX))
          have Q112 := Lib.hid (Q111.out.below (hX))
          clear W111 G111 K111 B111 Q111 
          clear hX
          refine hK _ _ ?_
          clear hK K
          try simp only [Act.put, List.setIfInBounds_toArray, List.set_cons_zero, List.set_cons_succ]
          refine wpAny_ready (rs := [16]) (by kernel_rfl) (by simp) ?_
          refine AllReady.cons (o := ?o32) ?ho32 (fun K hK => ?_) AllReady.nil
          case ho32 => simp only [List.getElem?_toArray, List.getElem?_cons_succ, List.getElem?_cons_zero]; rfl
          go_simp
          refine (rhmac_any K112.out (by omega) B112.out (by omega)).mono ?_
          rintro e w113 ⟨D113, rfl, hS, hX⟩
          obtain rfl := SM.out.uniq hS
          clear hS
          have W113 := Lib.hid (W112.out.trans (hX.mono W112.out.size))
          have G113 := Lib.hid (G112.out.below (hX.mono (Nat.le_refl _)) G112.out.size)
          have K113 := Lib.hid (K112.out.below (hX))
          have B113 := Lib.hid (B112.out.below (hX))
          have Q113 := Lib.hid (Q112.out.below (hX))
          clear W112 G112 K112 B112 Q112 
          clear hX
          refine hK _ _ ?_
          clear hK K
          try simp only [Act.put, List.setIfInBounds_toArray, List.set_cons_zero, List.set_cons_succ]
          refine wpAny_take (i := 17) (oi := ?oi33) (v := .bool true) ?hi33 (by kernel_rfl) (by kernel_rfl) (by kernel_rfl) ?hQ33 ?hy33 ?rest33
          case hi33 => simp only [List.getElem?_toArray, List.getElem?_cons_succ, List.getElem?_cons_zero]; rfl
          case hQ33 => exact fun _ _ _ h => h
          case hy33 => exact Or.inl ⟨by rfl, by intro w; go_simp⟩
          try simp only [Act.put, List.setIfInBounds_toArray, List.set_cons_zero, List.set_cons_succ]
          refine wpAny_take (i := 18) (oi := ?oi34) (v := .bool true) ?hi34 (by kernel_rfl) (by kernel_rfl) (by kernel_rfl) ?hQ34 ?hy34 ?rest34
          case hi34 => simp only [List.getElem?_toArray, List.getElem?_cons_succ, List.getElem?_cons_zero]; rfl
          case hQ34 => exact fun _ _ _ h => h
          case hy34 => exact Or.inl ⟨by rfl, by intro w; go_simp⟩
          try simp only [Act.put, List.setIfInBounds_toArray, List.set_cons_zero, List.set_cons_succ]
          refine wpAny_take (i := 19) (oi := ?oi35) (v := .bool true) ?hi35 (by kernel_rfl) (by kernel_rfl) (by kernel_rfl) ?hQ35 ?hy35 ?rest35
          case hi35 => simp only [List.getElem?_toArray, List.getElem?_cons_succ, List.getElem?_cons_zero]; rfl
          case hQ35 => exact fun _ _ _ h => h
          case hy35 => exact Or.inl ⟨by rfl, by intro w; go_simp⟩
          try simp only [Act.put, List.setIfInBounds_toArray, List.set_cons_zero, List.set_cons_succ]
          refine wpAny_done (by kernel_rfl) ?_ _
          clear hqm
          go_wp2_with fail
          go_ret
          exact ⟨rfl, W113.out⟩
        refine AllReady.cons (o := ?o36) ?ho36 (fun K hK => ?_) AllReady.nil
        case ho36 => simp only [List.getElem?_toArray, List.getElem?_cons_succ, List.getElem?_cons_zero]; rfl
        go_simp
        refine hK _ _ ?_
        clear hK K
        have X114 := Lib.hid (alloc_below w2 (.cells #[.slice A2 n2 c2] 23))
        have PB114 := Lib.hid (lit_parts1' (g := w2.heap.size) w2 B2.out rfl)
        generalize w2.alloc (.cells #[.slice A2 n2 c2] 23) = w114 at *
        try simp only [Act.put, List.setIfInBounds_toArray, List.set_cons_zero, List.set_cons_succ]
        have W114 := Lib.hid (W2.out.trans (X114.out.mono W2.out.size))
        have G114 := Lib.hid (G2.out.below (X114.out.mono (Nat.le_refl _)) G2.out.size)
        have K114 := Lib.hid (K2.out.below (X114.out))
        have B114 := Lib.hid (B2.out.below (X114.out))
        have Q114 := Lib.hid (Q2.out.below (X114.out))
        clear W2 G2 K2 B2 Q2 
        clear X114
        refine wpAny_ready (rs := [2]) (by kernel_rfl) (by simp) ?_
        refine AllReady.cons (o := ?o37) ?ho37 (fun K hK => ?_) AllReady.nil
        case ho37 => simp only [List.getElem?_toArray, List.getElem?_cons_succ, List.getElem?_cons_zero]; rfl
        go_simp
        refine hK _ _ ?_
        clear hK K
        have X115 := Lib.hid (alloc_below w114 (.cells #[.slice A2 n2 c2] 23))
        have PA115 := Lib.hid (lit_parts1' (g := w114.heap.size) w114 B114.out rfl)
        generalize w114.alloc (.cells #[.slice A2 n2 c2] 23) = w115 at *
        try simp only [Act.put, List.setIfInBounds_toArray, List.set_cons_zero, List.set_cons_succ]
        have W115 := Lib.hid (W114.out.trans (X115.out.mono W114.out.size))
        have G115 := Lib.hid (G114.out.below (X115.out.mono (Nat.le_refl _)) G114.out.size)
        have K115 := Lib.hid (K114.out.below (X115.out))
        have B115 := Lib.hid (B114.out.below (X115.out))
        have Q115 := Lib.hid (Q114.out.below (X115.out))
        have PB115 := Lib.hid (PB114.out.below (X115.out))
        clear W114 G114 K114 B114 Q114 PB114
        clear X115
        refine wpAny_ready (rs := [3]) (by kernel_rfl) (by simp) ?_
        refine AllReady.cons (o := ?o38) ?ho38 (fun K hK => ?_) AllReady.nil
        case ho38 => simp only [List.getElem?_toArray, List.getElem?_cons_succ, List.getElem?_cons_zero]; rfl
        go_simp
        refine (hmac_any G115.out K115.out (by omega) PA115.out (by omega) (by rw [one, NB.out]; omega)).mono ?_
        rintro e w116 ⟨D116, rfl, hS, hX⟩
        rw [one] at hS
        have SM := Lib.hid hS
        clear hS
        clear PA115
        have W116 := Lib.hid (W115.out.trans (hX.mono W115.out.size))
        have G116 := Lib.hid (G115.out.below (hX.mono (Nat.le_refl _)) G115.out.size)
        have K116 := Lib.hid (K115.out.below (hX))
        have B116 := Lib.hid (B115.out.below (hX))
        have Q116 := Lib.hid (Q115.out.below (hX))
        have PB116 := Lib.hid (PB115.out.below (hX))
        clear W115 G115 K115 B115 Q115 PB115
        clear hX
        refine hK _ _ ?_
        clear hK K
        try simp only [Act.put, List.setIfInBounds_toArray, List.set_cons_zero, List.set_cons_succ]
        refine wpAny_ready (rs := [7]) (by kernel_rfl) (by simp) ?_
        refine AllReady.cons (o := ?o39) ?ho39 (fun K hK => ?_) AllReady.nil
        case ho39 => simp only [List.getElem?_toArray, List.getElem?_cons_succ, List.getElem?_cons_zero]; rfl
        go_simp
        refine (hmac_any G116.out Q116.out (by omega) PB116.out (by omega) (by rw [one, NB.out]; omega)).mono ?_
        rintro e w117 ⟨D117, rfl, hS, hX⟩
        rw [one] at hS
        unfold Maced at hS
        rw [HLG.out] at hS
        obtain rfl := SM.out.uniq hS
        clear hS
        have hqm := fun W => SM.out.self W
        clear PB116
        have W117 := Lib.hid (W116.out.trans (hX.mono W116.out.size))
        have G117 := Lib.hid (G116.out.below (hX.mono (Nat.le_refl _)) G116.out.size)
        have K117 := Lib.hid (K116.out.below (hX))
        have B117 := Lib.hid (B116.out.below (hX))
        have Q117 := Lib.hid (Q116.out.below (hX))
        clear W116 G116 K116 B116 Q116 
        clear hX
        refine hK _ _ ?_
        clear hK K
        try simp only [Act.put, List.setIfInBounds_toArray, List.set_cons_zero, List.set_cons_succ]
        refine wpAny_take (i := 8) (oi := ?oi40) (v := .bool true) ?hi40 (by kernel_rfl) (by kernel_rfl) (by kernel_rfl) ?hQ40 ?hy40 ?rest40
        case hi40 => simp only [List.getElem?_toArray, List.getElem?_cons_succ, List.getElem?_cons_zero]; rfl
        case hQ40 => exact fun _ _ _ h => h
        case hy40 => exact Or.inl ⟨by rfl, by intro w; go_simp⟩
        try simp only [Act.put, List.setIfInBounds_toArray, List.set_cons_zero, List.set_cons_succ]
        refine wpAny_take (i := 9) (oi := ?oi41) (v := .bool true) ?hi41 (by kernel_rfl) (by kernel_rfl) (by kernel_rfl) ?hQ41 ?hy41 ?rest41
        case hi41 => simp only [List.getElem?_toArray, List.getElem?_cons_succ, List.getElem?_cons_zero]; rfl
        case hQ41 => exact fun _ _ _ h => h
        case hy41 => exact Or.inl ⟨by rfl, by intro w; go_simp⟩
        try simp only [Act.put, List.setIfInBounds_toArray, List.set_cons_zero, List.set_cons_succ]
        refine wpAny_take (i := 10) (oi := ?oi42) (v := .slice (some ⟨gk, 0, none⟩) k k) ?hi42 (by kernel_rfl) (by kernel_rfl) (by kernel_rfl) ?hQ42 ?hy42 ?rest42
        case hi42 => simp only [List.getElem?_toArray, List.getElem?_cons_succ, List.getElem?_cons_zero]; rfl
        case hQ42 => exact fun _ _ _ h => h
        case hy42 => exact Or.inl ⟨by rfl, by intro w; go_simp⟩
        try simp only [Act.put, List.setIfInBounds_toArray, List.set_cons_zero, List.set_cons_succ]
        refine wpAny_take (i := 11) (oi := ?oi43) (v := .slice A2 n2 c2) ?hi43 (by kernel_rfl) (by kernel_rfl) (by kernel_rfl) ?hQ43 ?hy43 ?rest43
        case hi43 => simp only [List.getElem?_toArray, List.getElem?_cons_succ, List.getElem?_cons_zero]; rfl
        case hQ43 => exact fun _ _ _ h => h
        case hy43 => exact Or.inl ⟨by rfl, by intro w; go_simp⟩
        try simp only [Act.put, List.setIfInBounds_toArray, List.set_cons_zero, List.set_cons_succ]
        refine wpAny_take (i := 14) (oi := ?oi44) (v := .slice (some ⟨gk, 0, none⟩) k k) ?hi44 (by kernel_rfl) (by kernel_rfl) (by kernel_rfl) ?hQ44 ?hy44 ?rest44
        case hi44 => simp only [List.getElem?_toArray, List.getElem?_cons_succ, List.getElem?_cons_zero]; rfl
        case hQ44 => exact fun _ _ _ h => h
        case hy44 => exact Or.inl ⟨by rfl, by intro w; go_simp⟩
        try simp only [Act.put, List.setIfInBounds_toArray, List.set_cons_zero, List.set_cons_succ]
        refine wpAny_take (i := 15) (oi := ?oi45) (v := .slice A2 n2 c2) ?hi45 (by kernel_rfl) (by kernel_rfl) (by kernel_rfl) ?hQ45 ?hy45 ?rest45
        case hi45 => simp only [List.getElem?_toArray, List.getElem?_cons_succ, List.getElem?_cons_zero]; rfl
        case hQ45 => exact fun _ _ _ h => h
        case hy45 => exact Or.inl ⟨by rfl, by intro w; go_simp⟩
        try simp only [Act.put, List.setIfInBounds_toArray, List.set_cons_zero, List.set_cons_succ]
        refine wpAny_ready (rs := [12]) (by kernel_rfl) (by simp) ?_
        refine AllReady.cons (o := ?o46) ?ho46 (fun K hK => ?_) AllReady.nil
        case ho46 => simp only [List.getElem?_toArray, List.getElem?_cons_succ, List.getElem?_cons_zero]; rfl
        go_simp
        refine hK _ _ ?_
        clear hK K
        have X118 := Lib.hid (alloc_below w117 (.cells #[.slice A2 n2 c2] 23))
        have P118 := Lib.hid (lit_parts1' (g := w117.heap.size) w117 B117.out rfl)
        generalize w117.alloc (.cells #[.slice A2 n2 c2] 23) = w118 at *
        try simp only [Act.put, List.setIfInBounds_toArray, List.set_cons_zero, List.set_cons_succ]
        have W118 := Lib.hid (W117.out.trans (X118.out.mono W117.out.size))
        have G118 := Lib.hid (G117.out.below (X118.out.mono (Nat.le_refl _)) G117.out.size)
        have K118 := Lib.hid (K117.out.below (X118.out))
        have B118 := Lib.hid (B117.out.below (X118.out))
        have Q118 := Lib.hid (Q117.out.below (X118.out))
        clear W117 G117 K117 B117 Q117 
        clear X118
        refine wpAny_ready (rs := [13]) (by kernel_rfl) (by simp) ?_
        refine AllReady.cons (o := ?o47) ?ho47 (fun K hK => ?_) AllReady.nil
        case ho47 => simp only [List.getElem?_toArray, List.getElem?_cons_succ, List.getElem?_cons_zero]; rfl
        go_simp
        refine (hmac_any G118.out K118.out (by omega) P118.out (by omega) (by rw [one, NB.out]; omega)).mono ?_
        rintro e w119 ⟨D119, rfl, hS, hX⟩
        rw [one] at hS
        obtain rfl := SM.out.uniq hS
        clear hS
        clear P118
        have W119 := Lib.hid (W118.out.trans (hX.mono W118.out.size))
        have G119 := Lib.hid (G118.out.below (hX.mono (Nat.le_refl _)) G118.out.size)
        have K119 := Lib.hid (K118.out.below (hX))
        have B119 := Lib.hid (B118.out.below (hX))
        have Q119 := Lib.hid (Q118.out.below (hX))
        clear W118 G118 K118 B118 Q118 
        clear hX
        refine hK _ _ ?_
        clear hK K
        try simp only [Act.put, List.setIfInBounds_toArray, List.set_cons_zero, List.set_cons_succ]
        refine wpAny_ready (rs := [16]) (by kernel_rfl) (by simp) ?_
        refine AllReady.cons (o := ?o48) ?ho48 (fun K hK => ?_) AllReady.nil
        case ho48 => simp only [List.getElem?_toArray, List.getElem?_cons_succ, List.getElem?_cons_zero]; rfl
        go_simp
        refine (rhmac_any K119.out (by omega) B119.out (by omega)).mono ?_
        rintro e w120 ⟨D120, rfl, hS, hX⟩
        obtain rfl := SM.out.uniq hS
        clear hS
        have W120 := Lib.hid (W119.out.trans (hX.mono W119.out.size))
        have G120 := Lib.hid (G119.out.below (hX.mono (Nat.le_refl _)) G119.out.size)
        have K120 := Lib.hid (K119.out.below (hX))
        have B120 := Lib.hid (B119.out.below (hX))
        have Q120 := Lib.hid (Q119.out.below (hX))
        clear W119 G119 K119 B119 Q119 
        clear hX
        refine hK _ _ ?_
        clear hK K
        try simp only [Act.put, List.setIfInBounds_toArray, List.set_cons_zero, List.set_cons_succ]
        refine wpAny_take (i := 17) (oi := ?oi49) (v := .bool true) ?hi49 (by kernel_rfl) (by kernel_rfl) (by kernel_rfl) ?hQ49 ?hy49 ?rest49
        case hi49 => simp only [List.getElem?_toArray, List.getElem?_cons_succ, List.getElem?_cons_zero]; rfl
        case hQ49 => exact fun _ _ _ h => h
        case hy49 => exact Or.inl ⟨by rfl, by intro w; go_simp⟩
        try simp only [Act.put, List.setIfInBounds_toArray, List.set_cons_zero, List.set_cons_succ]
        refine wpAny_take (i := 18) (oi := ?oi50) (v := .bool true) ?hi50 (by kernel_rfl) (by kernel_rfl) (by kernel_rfl) ?hQ50 ?hy50 ?rest50
        case hi50 => simp only [List.getElem?_toArray, List.getElem?_cons_succ, List.getElem?_cons_zero]; rfl
        case hQ50 => exact fun _ _ _ h => h
        case hy50 => exact Or.inl ⟨by rfl, by intro w; go_simp⟩
        try simp only [Act.put, List.setIfInBounds_toArray, List.set_cons_zero, List.set_cons_succ]
        refine wpAny_take (i := 19) (oi := ?oi51) (v := .bool true) ?hi51 (by kernel_rfl) (by kernel_rfl) (by kernel_rfl) ?hQ51 ?hy51 ?rest51
        case hi51 => simp only [List.getElem?_toArray, List.getElem?_cons_succ, List.getElem?_cons_zero]; rfl
        case hQ51 => exact fun _ _ _ h => h
        case hy51 => exact Or.inl ⟨by rfl, by intro w; go_simp⟩
        try simp only [Act.put, List.setIfInBounds_toArray, List.set_cons_zero, List.set_cons_succ]
        refine wpAny_done (by kernel_rfl) ?_ _
        clear hqm
        go_wp2_with fail
        go_ret
        exact ⟨rfl, W120.out⟩
      · have d2 : decide ((64 : Int) < (k : Int)) = false := by simp; omega
        obtain ⟨w3, rfl⟩ : ∃ w3, w3 = wr := ⟨_, rfl⟩
        have K3 := KR
        have B3 := BR
        have W3 := WR
        have G3 := GR
        clear KR BR WR GR
        have X := Lib.hid (alloc_below w3 (.cells #[.slice A2 n2 c2] 23))
        have P := Lib.hid (lit_parts1' (g := w3.heap.size) w3 B3.out rfl)
        have hcall := Lib.hid (hmac_any (c' := 1) (G3.out.below X.out G3.out.size) (K3.out.below X.out) (by omega) P.out (by omega) (by rw [one, NB.out]; omega))
        go_wp2_with fail
        clear d1 d2
        refine hcall.out.mono ?_
        rintro e w4 ⟨D, rfl, hS, hX⟩
        rw [one] at hS
        have SM := Lib.hid hS
        have X4 := Lib.hid (X.out.trans (hX.mono X.out.size))
        have K4 := Lib.hid (K3.out.below X4.out)
        have B4 := Lib.hid (B3.out.below X4.out)
        have W4 := Lib.hid (W3.out.trans (X4.out.mono W3.out.size))
        clear hS hX hcall X P X4 K3 B3 W3 G3
        go_wp2_with fail
        refine (rhmac_any K4.out (by omega) B4.out (by omega)).mono ?_
        rintro e w5 ⟨D2, rfl, hS, hX⟩
        obtain rfl := SM.out.uniq hS
        have hq := fun W => SM.out.self W
        have K5 := Lib.hid (K4.out.below hX)
        have B5 := Lib.hid (B4.out.below hX)
        have W5 := Lib.hid (W4.out.trans (hX.mono W4.out.size))
        have G5 := Lib.hid (HG.out.below W5.out HG.out.size)
        clear hS hX K4 B4 W4
        by_cases he : k = 64
        · have he2 : ((k : Int) == 64) = true := by simp; omega
          go_wp2_with fail
          go_ret
          exact ⟨rfl, W5.out⟩
        have he2 : ((k : Int) == 64) = false := by simp; omega
        have X := Lib.hid (alloc_below w5 (.cells #[.slice A2 n2 c2] 23))
        have P := Lib.hid (lit_parts1' (g := w5.heap.size) w5 B5.out rfl)
        have hcall := Lib.hid (hmac_any (c' := 1) (G5.out.below X.out G5.out.size) (K5.out.below X.out) (by omega) P.out (by omega) (by rw [one, NB.out]; omega))
        go_wp2_with fail
        refine hcall.out.mono ?_
        rintro e w6 ⟨D3, rfl, hS, hX⟩
        rw [one] at hS
        obtain rfl := SM.out.uniq hS
        have X6 := Lib.hid (X.out.trans (hX.mono X.out.size))
        have K6 := Lib.hid (K5.out.below X6.out)
        have B6 := Lib.hid (B5.out.below X6.out)
        have W6 := Lib.hid (W5.out.trans (X6.out.mono W5.out.size))
        clear hS hX hcall X P X6 K5 B5 W5 G5
        go_wp2_with (first
          | (at_builtin; refine onto_when (by rfl) (.const (.slice none 0 0)) _ rfl rfl rfl K6.out (Ow.empty _ w6.heap.size) (by simp; omega) (Nat.le_refl _) (Below.refl _ _) ?_; intro v7 w7 O7 X7 _)
          | (at_builtin; refine onto_when (by rfl) (.tmp 77) _ rfl rfl rfl (lit_bytes1 w7 0) (O7.out.keep (alloc_below w7 _)) (by rw [List.nil_append, HK.out]; omega) (by have := X7.out.size; simp; omega) (X7.out.alloc X7.out.size _) ?_; intro v8 w8 O8 X8 _))
        rw [List.nil_append] at O8
        obtain ⟨A8, c8, rfl, hr8, _⟩ := O8.out.value
        have e8 : (l ++ [0]).length = k + 1 := by rw [List.length_append, HK.out]; rfl
        rw [e8] at hr8
        rw [e8]
        have Q8 := Lib.hid hr8
        have B8 := Lib.hid (B6.out.below X8.out)
        have W8 := Lib.hid (W6.out.trans (X8.out.mono W6.out.size))
        have G8 := Lib.hid (HG.out.below W8.out HG.out.size)
        have HZ := Lib.hid (hmac_zero l b (by rw [HK.out]; omega))
        clear hr8 e8 O7 O8 X7 X8 K6 B6 W6
        have X := Lib.hid (alloc_below w8 (.cells #[.slice A2 n2 c2] 23))
        have P := Lib.hid (lit_parts1' (g := w8.heap.size) w8 B8.out rfl)
        have hcall := Lib.hid (hmac_any (c' := 1) (G8.out.below X.out G8.out.size) (Q8.out.below X.out) (by omega) P.out (by omega) (by rw [one, NB.out]; omega))
        refine hcall.out.mono ?_
        rintro e w9 ⟨D4, rfl, hS, hX⟩
        rw [one] at hS
        unfold Maced at hS
        rw [HZ.out] at hS
        obtain rfl := SM.out.uniq hS
        have W9 := Lib.hid ((W8.out.trans (X.out.mono W8.out.size)).trans (hX.mono (Nat.le_trans W8.out.size X.out.size)))
        clear hS hX hcall X P
        go_wp2_with fail
        go_ret
        exact ⟨rfl, W9.out⟩

theorem walk {A1 : Option Addr} {n1 c1 : Nat} {x1 : List UInt8} (n x : Int) (hx : (Lit.int .u8 x).wf = true) (w : World) (hg : Gl w) (hr1 : Rd w A1 n1 c1 x1) :
    Calls Tryd.prog 8 #[.int .i64 n, .int .u8 x, .slice A1 n1 c1] w fun e w' => e = .returned (.bool true) ∧ Below w.heap.size w w' := by
  by_cases h : n < 0 ∨ 130 < n
  · exact walk_out n x w hg hr1 h
  · obtain ⟨m, rfl⟩ := Int.eq_ofNat_of_zero_le (show 0 ≤ n by omega)
    have h : 0 ≤ x ∧ x ≤ 255 := by simpa [Lit.wf, IntKind.min, IntKind.max, IntKind.signed, IntKind.bits] using hx
    obtain ⟨q, rfl⟩ := Int.eq_ofNat_of_zero_le h.1
    have e : ((q : Nat) : Int) = ((UInt8.ofNat q).toNat : Int) := by simp; omega
    rw [e]
    exact walkIn m (UInt8.ofNat q) w hg hr1 (by omega)

set_option maxRecDepth 100000 in
theorem lifted (os : Os) (started : os.Started) (H : Type) (enc : TypeId × Value → H) :
    ReturnsInHanded {} Tryd.checked os 8 .any (fun w args => (Rows.macKeysSpec.pre enc Tryd.prog Tryd.f8 [] false w args ∧ laidMetH Tryd.prog laid2 w) ∧ sizedMet enc Tryd.prog Tryd.f8 (OpenSpec.ofChange Rows.macKeysSpec) false w args)
      (Rows.macKeysSpec.post enc Tryd.prog Tryd.f8 false true false false) := by
  refine returnsInHanded_of_change_and (C := Tryd.checked) (X := fun w _ => laidMetH Tryd.prog laid2 w) (fun _ _ _ hh h => h.of_heap hh) own started (by kernel_rfl) Tryd.func8
    (ChangeSpec.witness_shaped (enc := enc) (C := Tryd.checked) (os := os) (X := fun w _ => laidMetH Tryd.prog laid2 w) false (World.doorLaid Tryd.prog 400 os) #[.int .i64 0, .int .u8 0, .slice none 0 0] 8 rfl (World.shaped_of_RefB (by kernel_rfl) (by kernel_rfl)) (by kernel_rfl) (by kernel_rfl) (by kernel_rfl) (door_met os _)) ?_
  intro W base args ds gs before hval0 hW _ _ hL _
  have hval : ∀ (j : Nat) t v, Tryd.f8.params[j]? = some t → args[j]? = some v → Value.okWide Tryd.prog W .any base t v := hval0
  have hW' := hW
  obtain ⟨p, q, hA0, hV, rfl, hfz, hnd⟩ := hW
  have hA : DataW.TrodAll enc Tryd.prog W 0 (fun _ => true) true Tryd.f8.params.toList args.toList ds p := hA0
  rw [Tryd.params8] at hA hval
  have hG := gl_of_laid hL
  obtain ⟨v0, vs0, d0, ds0, p0, q0, hargs, rfl, rfl, h0, r0⟩ := trodAll_cons hA
  obtain ⟨v1, vs1, d1, ds1, p1, q1, rfl, rfl, rfl, h1, r1⟩ := trodAll_cons r0
  obtain ⟨v2, vs2, d2, ds2, p2, q2, rfl, rfl, rfl, h2, r2⟩ := trodAll_cons r1
  obtain ⟨rfl, rfl, rfl⟩ := trodAll_nil r2
  obtain rfl : args = #[v0, v1, v2] := by cases args; simp_all
  obtain ⟨rfl, rfl⟩ := trodVars_none hV
  obtain ⟨a0, rfl, rfl, rfl, w0⟩ := open_int Tryd.underlying3 (hval 0 3 v0 rfl rfl) h0
  obtain ⟨a1, rfl, rfl, rfl, w1⟩ := open_int Tryd.underlying5 (hval 1 5 v1 rfl rfl) h1
  obtain ⟨a2, len2, cap2, rfl⟩ := okWide_slice Tryd.underlying23 (hval 2 23 v2 rfl rfl)
  have k2 := h2
  have lt2 : ∀ x ∈ p2, x.block < W.heap.size := by obtain ⟨m, hm⟩ := k2; exact DataW.trod_lt m _ _ _ hm
  obtain ⟨l2, hr2⟩ : ∃ l, Rd W a2 len2 cap2 l := by
    obtain ⟨fuel, hf⟩ := h2
    rcases open_ints Tryd.underlying23 Tryd.underlying5 (by kernel_rfl) hf with ⟨hcs, _⟩ | ⟨x, l, c, zs, hcs, _, hl, hm, hz, _, hcell, hwz⟩
    · simp [Value.cells] at hcs
      obtain ⟨rfl, rfl, rfl⟩ := hcs
      exact rd_came (zs := []) (.inl ⟨rfl, rfl, rfl, rfl⟩)
    · simp [Value.cells] at hcs
      obtain ⟨rfl, rfl, rfl⟩ := hcs
      exact rd_came (.inr ⟨_, rfl, hl, hm, by simpa using hz, hcell, hwz⟩)
  clear hA0 hval0
  refine (walk a0 a1 w1 W hG hr2).mono fun e W' ⟨he, bel⟩ => ?_
  subst he
  exact ⟨_, rfl, _, _, _, [], _, [], hW', trodAll_mk1 (shut_bool Tryd.underlying4 _), (trodAll_cons_mk (shut_int Tryd.underlying3 w0) (trodAll_cons_mk (shut_int Tryd.underlying5 w1) (trodAll_cons_mk (Below.trod laidOut (by kernel_rfl) (of_decide_eq_true (by kernel_rfl)) k2 bel lt2) trodAll_mk0))), rfl, bel.frame _, fun h => by cases h⟩

theorem over : Rows.macKeysRow.holds Tryd.pinned (OpenSpec.ofChange Rows.macKeysSpec) :=
  OpenClaim.holds_of_wide 8 Tryd.f8 rfl rfl rfl rfl rfl rfl rfl ⟨rfl, rfl, rfl, rfl, rfl⟩ rfl rfl rfl rfl rfl (by kernel_rfl) Tryd.func8 (by kernel_rfl)
    (of_decide_eq_true (by kernel_rfl)) (by unfold Func.isWrapper; first | (rw [if_pos (by decide +kernel)]; kernel_rfl) | (rw [if_neg (by decide +kernel)]; exact ⟨rfl, rfl⟩))
    (fun os started H enc _ => lifted os started H enc)
end Go.Proofs.YtbepofmkfloajaaDoor.macKeys
namespace Go.Proofs.YtbepofmkfloajaaDoor
theorem macKeys_card : Rows.MacKeysCardSaid :=
  Claim7.holds_tied_plain_at .later [] [.data, .data] true (true, "ac81aa9bd4a0dec26816718b789ea913be61d5e2860e2b9353823b24d89e6bc9") false
    macKeys.over (fun _ h => by cases h) (by kernel_rfl) (fun _ h => by cases h) macKeys_row_tie rfl ⟨rfl, rfl⟩ (by kernel_rfl) rfl
    (fun f fn hf hfn => by
      obtain rfl : f = 8 := Option.some.inj ((show Tryd.prog.funcNamed Tryd.f8.name = some 8 by kernel_rfl).symm.trans hf) |>.symm
      obtain rfl : fn = Tryd.f8 := (Option.some.inj (Tryd.func8.symm.trans hfn)).symm
      exact ⟨by kernel_rfl, fun j t ht => by
        rw [Tryd.params8] at ht
        have hm : t ∈ [3, 5, 23] := by simpa using Array.mem_of_getElem? ht
        have hall : (([3, 5, 23] : List TypeId).all fun u => !Tryd.prog.wantsStandIn u) = true := by kernel_rfl
        exact (show Tryd.prog.wantsStandIn t = false by simpa using List.all_eq_true.1 hall t hm)⟩)
    (by kernel_rfl)
#print axioms macKeys_card
end Go.Proofs.YtbepofmkfloajaaDoor
