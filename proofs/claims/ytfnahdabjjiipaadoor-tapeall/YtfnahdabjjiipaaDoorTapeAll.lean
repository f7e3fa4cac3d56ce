/- The walk of TapeAll. -/
import Derived.Test.YtfnahdabjjiipaaDoorTk
namespace Go.Proofs.YtfnahdabjjiipaaDoor.tapeAll
set_option linter.unusedVariables false
set_option linter.unusedSimpArgs false
set_option maxRecDepth 100000
open Go.RowKit

/-- The slice value (A, n, c) reads as the numbers zs. -/
structure RdL (w : World) (A : Option Addr) (n c : Nat) (zs : List Int) : Prop where
  len : zs.length = n
  cap : n ≤ c
  max : c ≤ maxLen
  at_ : 0 < n → ∃ b off, A = some ⟨b, off, none⟩ ∧ b < w.heap.size ∧ ∀ j, j < n → w.cell? ⟨b, off + j, none⟩ = some (.int .i64 (zs.getD j 0))
theorem rdl_came {w : World} {a : Option Addr} {len cap : Nat} {zs : List Int} (h : (a = none ∧ len = 0 ∧ cap = 0 ∧ zs = []) ∨
    ∃ x, a = some x ∧ len ≤ cap ∧ cap ≤ maxLen ∧ zs.length = cap ∧ (∀ i, i < zs.length → w.cell? (x.add i) = some (.int .i64 (zs.getD i 0)))) :
    ∃ l, RdL w a len cap l := by
  rcases h with ⟨rfl, rfl, rfl, rfl⟩ | ⟨x, rfl, hlc, hcm, hz, hcell⟩
  · exact ⟨[], rfl, Nat.le_refl _, by unfold maxLen; omega, fun h => absurd h (by omega)⟩
  · refine ⟨zs.take len, by simp; omega, hlc, hcm, fun h0 => ?_⟩
    obtain ⟨b, off, rfl, hc⟩ := ints_at hcell (by omega)
    refine ⟨b, off, rfl, World.block_lt_of_cell? w ⟨b, off, none⟩ (by simpa using hc 0 (by omega)), fun j hj => ?_⟩
    have hjz : j < zs.length := by omega
    rw [hc j hjz]
    simp [List.getD_eq_getElem?_getD, List.getElem?_take, hj]
theorem str_nne (a : List UInt8) : ((⟨a.toArray⟩ : ByteArray) != ⟨a.toArray⟩) = false := by
  show (!(a.toArray == a.toArray)) = false
  simp

set_option maxRecDepth 100000 in
set_option maxHeartbeats 8000000 in
theorem walk {Tp : World → Nat → Int → Nat → Prop} {Mm : World → Nat → Nat → Prop} (hT : TapeOk Tp Mm) (s : Int) {A : Option Addr} {n c : Nat} {zs : List Int} (W : World) (hG : Gl W) (hs1 : -9223372036854775808 ≤ s) (hs2 : s ≤ 9223372036854775807) (hr : RdL W A n c zs) :
    Calls Tryd.prog 3 #[.int .i64 s, .slice A n c] W fun e w' => e = .returned (.bool true) ∧ Below W.heap.size W w' := by
  have HG := Lib.hid hG
  have HT := Lib.hid hT
  have hsz := hG.size
  clear hG hT
  have HR := Lib.hid hr
  have hnm : n ≤ maxLen := Nat.le_trans hr.cap hr.max
  unfold maxLen at hnm
  clear hr
  go_enter Tryd.func3, Tryd.ntmps3
  go_wp2_with fail
  refine (begun7_any HT.out HG.out).mono ?_
  rintro e w1 ⟨rfl, HB⟩
  have W1 := Lib.hid HB
  have hs1' := HB.size
  clear HB
  go_wp2_with fail
  refine (HT.out.new s w1 hs1 hs2).mono ?_
  rintro e w2 ⟨g, rfl, hgw, hT_, hX_⟩
  have Tg := Lib.hid hT_
  have hgl : g < w2.heap.size := HT.out.lt hT_
  have W2 := Lib.hid (W1.out.trans (hX_.mono W1.out.size))
  have hs2' := hX_.size
  clear hT_ hX_
  go_upto_region 7 with (fail)
  go_loopw [7, 8] (fun av iv wr => ∃ (j a : Nat), iv = .int .i64 (j : Int) ∧ av = .int .i64 (a : Int) ∧ j ≤ n ∧ j ≤ 15 ∧ a ≤ 200 * j ∧ w2.heap.size ≤ wr.heap.size ∧ Hid (Tp wr g s a) ∧ Hid (Below W.heap.size W wr)) (fun _ iv _ => 15 - (intOf iv).toNat)
  case atStart => exact ⟨0, 0, rfl, rfl, by omega, by omega, by omega, Nat.le_refl _, Tg, W2⟩
  case round =>
    clear Tg W1 W2
    obtain ⟨j, a, rfl, rfl, hjn, hj15, haj, hsr, TG, BW⟩ := hrel
    by_cases hlt : j < n
    · by_cases hl15 : j < 15
      · have hlb : decide ((j : Int) < (n : Int)) = true := by simp; omega
        have hlc : decide ((j : Int) < 15) = true := by simp; omega
        obtain ⟨bb, off, hA, hbl, hcell⟩ := HR.out.at_ (by omega)
        subst hA
        obtain ⟨z, hz⟩ : ∃ z, z = zs.getD j 0 := ⟨_, rfl⟩
        have e0 : wr.cell? ⟨bb, off + j, none⟩ = some (.int .i64 z) := by rw [hz]; exact (BW.out.cell (p := ⟨bb, off + j, none⟩) hbl).trans (hcell j hlt)
        clear hz hcell
        by_cases hz1 : 200 < z
        · have f1 : decide (200 < z) = true := decide_eq_true hz1
          by_cases hz2 : z ≤ 4000
          · have f2 : decide (z ≤ 4000) = true := decide_eq_true hz2
            go_wp2_with fail
            refine (HT.out.next 200 (HG.out.below BW.out hsz) (by omega) TG.out (by omega) (by omega)).mono ?_
            rintro e w3 ⟨A2, c2, rfl, hR2, hT2, hO, _, _⟩
            have TG3 := Lib.hid (HT.out.below hT2 (Below.refl _ w3).drew)
            have BW3 := Lib.hid (below_of_only BW.out hO (by omega) BW.out.size).drew
            have R3 := Lib.hid hR2.drew
            have hs3 : wr.heap.size ≤ w3.drew.heap.size := hO.size
            obtain ⟨l, hl⟩ : ∃ l, l = Tap.tape s a 200 := ⟨_, rfl⟩
            have CT := Lib.hid (fun W => rtape_any s a 200 W hs1 hs2 (by omega) (by omega))
            rw [← hl] at R3 CT
            clear hl hR2 hT2 hO e0 TG BW
            go_upto_region 16 with (fail)
            refine wp_region_any (by kernel_rfl) ?_
            change wpAny _ _ _ _ _ _ _ (World.drew _)
            generalize w3.drew = w4 at *
            refine wpAny_take (i := 0) (oi := ?oi1) (v := .slice A2 200 c2) ?hi1 (by kernel_rfl) (by kernel_rfl) (by kernel_rfl) ?hQ1 ?hy1 ?rest1
            case hi1 => simp only [List.getElem?_toArray, List.getElem?_cons_succ, List.getElem?_cons_zero]; rfl
            case hQ1 => exact fun _ _ _ h => h
            case hy1 => exact Or.inl ⟨by rfl, by intro w; go_simp⟩
            try simp only [Act.put, List.setIfInBounds_toArray, List.set_cons_zero, List.set_cons_succ]
            refine wpAny_take (i := 2) (oi := ?oi2) (v := .int .i64 s) ?hi2 (by kernel_rfl) (by kernel_rfl) (by kernel_rfl) ?hQ2 ?hy2 ?rest2
            case hi2 => simp only [List.getElem?_toArray, List.getElem?_cons_succ, List.getElem?_cons_zero]; rfl
            case hQ2 => exact fun _ _ _ h => h
            case hy2 => exact Or.inl ⟨by rfl, by intro w; go_simp⟩
            try simp only [Act.put, List.setIfInBounds_toArray, List.set_cons_zero, List.set_cons_succ]
            refine wpAny_take (i := 3) (oi := ?oi3) (v := .int .i64 (a : Int)) ?hi3 (by kernel_rfl) (by kernel_rfl) (by kernel_rfl) ?hQ3 ?hy3 ?rest3
            case hi3 => simp only [List.getElem?_toArray, List.getElem?_cons_succ, List.getElem?_cons_zero]; rfl
            case hQ3 => exact fun _ _ _ h => h
            case hy3 => exact Or.inl ⟨by rfl, by intro w; go_simp⟩
            try simp only [Act.put, List.setIfInBounds_toArray, List.set_cons_zero, List.set_cons_succ]
            refine wpAny_take (i := 4) (oi := ?oi4) (v := .int .i64 200) ?hi4 (by kernel_rfl) (by kernel_rfl) (by kernel_rfl) ?hQ4 ?hy4 ?rest4
            case hi4 => simp only [List.getElem?_toArray, List.getElem?_cons_succ, List.getElem?_cons_zero]; rfl
            case hQ4 => exact fun _ _ _ h => h
            case hy4 => exact Or.inl ⟨by rfl, by intro w; go_simp⟩
            try simp only [Act.put, List.setIfInBounds_toArray, List.set_cons_zero, List.set_cons_succ]
            refine phase (fun i => if i = 6 then [5] else []) (fun d a' w' => ∃ x49 x53 x54 : Value, a' = { tmps := #[.int .i64 s, .slice (some ⟨bb, off, none⟩) n c, undef, undef, u4, .bool true, .pointer (some ⟨g, 0, none⟩), .int .i64 (a : Int), .int .i64 (j : Int), .int .i64 200, .slice A2 200 c2, .bool true, .bool true, .bool false, .int .i64 s, .pointer (some ⟨g, 0, none⟩), .int .i64 (j : Int), .slice (some ⟨bb, off, none⟩) n c, .int .i64 (n : Int), .bool true, .bool true, .int .i64 (j : Int), .bool true, .bool true, u24, u25, .slice (some ⟨bb, off, none⟩) n c, .int .i64 (j : Int), .pointer (some ⟨bb, off + j, none⟩), .int .i64 z, .int .i64 z, .bool true, .bool true, .int .i64 z, .bool true, .bool true, .pointer (some ⟨g, 0, none⟩), .int .i64 200, .slice A2 200 c2, .int .i64 200, .bool false, .bool false, .int .i64 200, .bool false, .bool false, u45, u46, u47, .slice A2 200 c2, x49, .int .i64 s, .int .i64 (a : Int), .int .i64 200, x53, x54, u55, u56, u57, u58], defers := [] } ∧ Hid (Below w4.heap.size w4 w') ∧ (d 1 = true → x49 = .string ⟨l.toArray⟩) ∧ (d 5 = true → Hid (∃ A c, x53 = .slice A 200 c ∧ Rd w' A 200 c l)) ∧ (d 6 = true → x54 = .string ⟨l.toArray⟩)) [1, 5, 6] ?step1 1 3 [1, 5, 6] _ _ _ rfl (by decide) (fun _ h => h) (by kernel_rfl) ?init1 ?fin1
            case init1 => refine ⟨_, _, _, rfl, Below.refl _ _, ?_, ?_, ?_⟩ <;> (intro h; exact absurd h (by decide))
            case step1 =>
              intro i hi d a' w5 hI hdi hdeps
              obtain ⟨x49, x53, x54, rfl, BX, h1, h5, h6⟩ := hI
              have hs5 := BX.out.size
              simp only [List.mem_cons, List.not_mem_nil, or_false] at hi
              rcases hi with rfl | rfl | rfl
              · have hcv := conv_bytes (R3.out.below BX.out)
                refine wpOp_step (o := ?os5) ?hos5 (fun K hK => ?_)
                case hos5 => simp only [List.getElem?_toArray, List.getElem?_cons_succ, List.getElem?_cons_zero]; rfl
                go_simp
                refine hK _ _ ?_
                clear hK K
                try simp only [Act.put, List.setIfInBounds_toArray, List.set_cons_zero, List.set_cons_succ]
                exact ⟨_, _, _, rfl, BX, fun _ => rfl, fun a => h5 (by simpa using a), fun a => h6 (by simpa using a)⟩
              · clear h5
                refine wpOp_step (o := ?os6) ?hos6 (fun K hK => ?_)
                case hos6 => simp only [List.getElem?_toArray, List.getElem?_cons_succ, List.getElem?_cons_zero]; rfl
                go_simp
                refine (CT.out w5).mono ?_
                rintro e w6 ⟨A6, c6, rfl, hR6, hX⟩
                refine hK _ _ ?_
                clear hK K
                try simp only [Act.put, List.setIfInBounds_toArray, List.set_cons_zero, List.set_cons_succ]
                exact ⟨_, _, _, rfl, BX.out.trans (hX.mono hs5), fun a => h1 (by simpa using a), fun _ => ⟨_, _, rfl, hR6⟩, fun a => h6 (by simpa using a)⟩
              · obtain ⟨A6, c6, rfl, hR6⟩ := (h5 (hdeps 5 (by simp))).out
                have hcv := conv_bytes hR6
                refine wpOp_step (o := ?os7) ?hos7 (fun K hK => ?_)
                case hos7 => simp only [List.getElem?_toArray, List.getElem?_cons_succ, List.getElem?_cons_zero]; rfl
                go_simp
                refine hK _ _ ?_
                clear hK K
                try simp only [Act.put, List.setIfInBounds_toArray, List.set_cons_zero, List.set_cons_succ]
                exact ⟨_, _, _, rfl, BX, fun a => h1 (by simpa using a), fun _ => ⟨_, _, rfl, hR6⟩, fun _ => rfl⟩
            case fin1 =>
              intro a' w5 hI
              obtain ⟨x49, x53, x54, rfl, BX, h1, h5, h6⟩ := hI
              obtain rfl := h1 (by decide)
              obtain rfl := h6 (by decide)
              have TG5 := Lib.hid (HT.out.below TG3.out BX.out)
              have BW5 := Lib.hid (BW3.out.trans (BX.out.mono BW3.out.size))
              have hs5 := BX.out.size
              clear h1 h5 h6 BX TG3 BW3 R3
              dsimp only
              have hss := str_nne l
              refine wpAny_take (i := 7) (oi := ?oi8) (v := .bool false) ?hi8 (by kernel_rfl) (by kernel_rfl) (by kernel_rfl) ?hQ8 ?hy8 ?rest8
              case hi8 => simp only [List.getElem?_toArray, List.getElem?_cons_succ, List.getElem?_cons_zero]; rfl
              case hQ8 => exact fun _ _ _ h => h
              case hy8 => exact Or.inl ⟨by rfl, by intro w; go_simp⟩
              try simp only [Act.put, List.setIfInBounds_toArray, List.set_cons_zero, List.set_cons_succ]
              refine wpAny_done (by kernel_rfl) ?_ _
              clear hss
              go_wp2_with fail
              go_roundw
              case rel => exact ⟨j + 1, a + 200, by go_num, by go_num, by omega, by omega, by omega, by omega, TG5, BW5⟩
              case measure => simp [intOf]; omega
          · have f2 : decide (z ≤ 4000) = false := decide_eq_false hz2
            have f3 : decide (z < 0) = false := decide_eq_false (by omega)
            have f4 : decide (4000 < z) = true := decide_eq_true (by omega)
            have hzz : z < 0 ∨ 4000 < z := Or.inr (by omega)
            go_wp2_with fail
            refine (HT.out.none_ z TG.out hzz).mono ?_
            rintro e w3 ⟨rfl, hX⟩
            have TG3 := Lib.hid (HT.out.below TG.out hX)
            have BW3 := Lib.hid (BW.out.trans (hX.mono BW.out.size))
            have hs3 := hX.size
            clear hX e0
            go_wp2_with fail
            go_roundw
            case rel => exact ⟨j + 1, a, by go_num, rfl, by omega, by omega, by omega, by omega, TG3, BW3⟩
            case measure => simp [intOf]; omega
        · have f1 : decide (200 < z) = false := decide_eq_false hz1
          by_cases hz3 : z < 0
          · have f3 : decide (z < 0) = true := decide_eq_true hz3
            have hzz : z < 0 ∨ 4000 < z := Or.inl hz3
            go_wp2_with fail
            refine (HT.out.none_ z TG.out hzz).mono ?_
            rintro e w3 ⟨rfl, hX⟩
            have TG3 := Lib.hid (HT.out.below TG.out hX)
            have BW3 := Lib.hid (BW.out.trans (hX.mono BW.out.size))
            have hs3 := hX.size
            clear hX e0
            go_wp2_with fail
            go_roundw
            case rel => exact ⟨j + 1, a, by go_num, rfl, by omega, by omega, by omega, by omega, TG3, BW3⟩
            case measure => simp [intOf]; omega
          · have f3 : decide (z < 0) = false := decide_eq_false hz3
            have f4 : decide (4000 < z) = false := decide_eq_false (by omega)
            obtain ⟨k, hk⟩ : ∃ k : Nat, z = (k : Int) := ⟨z.toNat, by omega⟩
            subst hk
            go_wp2_with fail
            refine (HT.out.next k (HG.out.below BW.out hsz) (by omega) TG.out (by omega) (by omega)).mono ?_
            rintro e w3 ⟨A2, c2, rfl, hR2, hT2, hO, _, _⟩
            have TG3 := Lib.hid (HT.out.below hT2 (Below.refl _ w3).drew)
            have BW3 := Lib.hid (below_of_only BW.out hO (by omega) BW.out.size).drew
            have R3 := Lib.hid hR2.drew
            have hs3 : wr.heap.size ≤ w3.drew.heap.size := hO.size
            obtain ⟨l, hl⟩ : ∃ l, l = Tap.tape s a k := ⟨_, rfl⟩
            have CT := Lib.hid (fun W => rtape_any s a k W hs1 hs2 (by omega) (by omega))
            rw [← hl] at R3 CT
            clear hl hR2 hT2 hO e0 TG BW
            go_upto_region 16 with (fail)
            refine wp_region_any (by kernel_rfl) ?_
            change wpAny _ _ _ _ _ _ _ (World.drew _)
            generalize w3.drew = w4 at *
            refine wpAny_take (i := 0) (oi := ?oi9) (v := .slice A2 k c2) ?hi9 (by kernel_rfl) (by kernel_rfl) (by kernel_rfl) ?hQ9 ?hy9 ?rest9
            case hi9 => simp only [List.getElem?_toArray, List.getElem?_cons_succ, List.getElem?_cons_zero]; rfl
            case hQ9 => exact fun _ _ _ h => h
            case hy9 => exact Or.inl ⟨by rfl, by intro w; go_simp⟩
            try simp only [Act.put, List.setIfInBounds_toArray, List.set_cons_zero, List.set_cons_succ]
            refine wpAny_take (i := 2) (oi := ?oi10) (v := .int .i64 s) ?hi10 (by kernel_rfl) (by kernel_rfl) (by kernel_rfl) ?hQ10 ?hy10 ?rest10
            case hi10 => simp only [List.getElem?_toArray, List.getElem?_cons_succ, List.getElem?_cons_zero]; rfl
            case hQ10 => exact fun _ _ _ h => h
            case hy10 => exact Or.inl ⟨by rfl, by intro w; go_simp⟩
            try simp only [Act.put, List.setIfInBounds_toArray, List.set_cons_zero, List.set_cons_succ]
            refine wpAny_take (i := 3) (oi := ?oi11) (v := .int .i64 (a : Int)) ?hi11 (by kernel_rfl) (by kernel_rfl) (by kernel_rfl) ?hQ11 ?hy11 ?rest11
            case hi11 => simp only [List.getElem?_toArray, List.getElem?_cons_succ, List.getElem?_cons_zero]; rfl
            case hQ11 => exact fun _ _ _ h => h
            case hy11 => exact Or.inl ⟨by rfl, by intro w; go_simp⟩
            try simp only [Act.put, List.setIfInBounds_toArray, List.set_cons_zero, List.set_cons_succ]
            refine wpAny_take (i := 4) (oi := ?oi12) (v := .int .i64 (k : Int)) ?hi12 (by kernel_rfl) (by kernel_rfl) (by kernel_rfl) ?hQ12 ?hy12 ?rest12
            case hi12 => simp only [List.getElem?_toArray, List.getElem?_cons_succ, List.getElem?_cons_zero]; rfl
            case hQ12 => exact fun _ _ _ h => h
            case hy12 => exact Or.inl ⟨by rfl, by intro w; go_simp⟩
            try simp only [Act.put, List.setIfInBounds_toArray, List.set_cons_zero, List.set_cons_succ]
            refine phase (fun i => if i = 6 then [5] else []) (fun d a' w' => ∃ x49 x53 x54 : Value, a' = { tmps := #[.int .i64 s, .slice (some ⟨bb, off, none⟩) n c, undef, undef, u4, .bool true, .pointer (some ⟨g, 0, none⟩), .int .i64 (a : Int), .int .i64 (j : Int), .int .i64 (k : Int), .slice A2 k c2, .bool true, .bool true, .bool false, .int .i64 s, .pointer (some ⟨g, 0, none⟩), .int .i64 (j : Int), .slice (some ⟨bb, off, none⟩) n c, .int .i64 (n : Int), .bool true, .bool true, .int .i64 (j : Int), .bool true, .bool true, u24, u25, .slice (some ⟨bb, off, none⟩) n c, .int .i64 (j : Int), .pointer (some ⟨bb, off + j, none⟩), .int .i64 (k : Int), .int .i64 (k : Int), .bool false, .bool false, undef, undef, .bool false, .pointer (some ⟨g, 0, none⟩), .int .i64 (k : Int), .slice A2 k c2, .int .i64 (k : Int), .bool false, .bool false, .int .i64 (k : Int), .bool false, .bool false, u45, u46, u47, .slice A2 k c2, x49, .int .i64 s, .int .i64 (a : Int), .int .i64 (k : Int), x53, x54, u55, u56, u57, u58], defers := [] } ∧ Hid (Below w4.heap.size w4 w') ∧ (d 1 = true → x49 = .string ⟨l.toArray⟩) ∧ (d 5 = true → Hid (∃ A c, x53 = .slice A k c ∧ Rd w' A k c l)) ∧ (d 6 = true → x54 = .string ⟨l.toArray⟩)) [1, 5, 6] ?step1 1 3 [1, 5, 6] _ _ _ rfl (by decide) (fun _ h => h) (by kernel_rfl) ?init1 ?fin1
            case init1 => refine ⟨_, _, _, rfl, Below.refl _ _, ?_, ?_, ?_⟩ <;> (intro h; exact absurd h (by decide))
            case step1 =>
              intro i hi d a' w5 hI hdi hdeps
              obtain ⟨x49, x53, x54, rfl, BX, h1, h5, h6⟩ := hI
              have hs5 := BX.out.size
              simp only [List.mem_cons, List.not_mem_nil, or_false] at hi
              rcases hi with rfl | rfl | rfl
              · have hcv := conv_bytes (R3.out.below BX.out)
                refine wpOp_step (o := ?os13) ?hos13 (fun K hK => ?_)
                case hos13 => simp only [List.getElem?_toArray, List.getElem?_cons_succ, List.getElem?_cons_zero]; rfl
                go_simp
                refine hK _ _ ?_
                clear hK K
                try simp only [Act.put, List.setIfInBounds_toArray, List.set_cons_zero, List.set_cons_succ]
                exact ⟨_, _, _, rfl, BX, fun _ => rfl, fun a => h5 (by simpa using a), fun a => h6 (by simpa using a)⟩
              · clear h5
                refine wpOp_step (o := ?os14) ?hos14 (fun K hK => ?_)
                case hos14 => simp only [List.getElem?_toArray, List.getElem?_cons_succ, List.getElem?_cons_zero]; rfl
                go_simp
                refine (CT.out w5).mono ?_
                rintro e w6 ⟨A6, c6, rfl, hR6, hX⟩
                refine hK _ _ ?_
                clear hK K
                try simp only [Act.put, List.setIfInBounds_toArray, List.set_cons_zero, List.set_cons_succ]
                exact ⟨_, _, _, rfl, BX.out.trans (hX.mono hs5), fun a => h1 (by simpa using a), fun _ => ⟨_, _, rfl, hR6⟩, fun a => h6 (by simpa using a)⟩
              · obtain ⟨A6, c6, rfl, hR6⟩ := (h5 (hdeps 5 (by simp))).out
                have hcv := conv_bytes hR6
                refine wpOp_step (o := ?os15) ?hos15 (fun K hK => ?_)
                case hos15 => simp only [List.getElem?_toArray, List.getElem?_cons_succ, List.getElem?_cons_zero]; rfl
                go_simp
                refine hK _ _ ?_
                clear hK K
                try simp only [Act.put, List.setIfInBounds_toArray, List.set_cons_zero, List.set_cons_succ]
                exact ⟨_, _, _, rfl, BX, fun a => h1 (by simpa using a), fun _ => ⟨_, _, rfl, hR6⟩, fun _ => rfl⟩
            case fin1 =>
              intro a' w5 hI
              obtain ⟨x49, x53, x54, rfl, BX, h1, h5, h6⟩ := hI
              obtain rfl := h1 (by decide)
              obtain rfl := h6 (by decide)
              have TG5 := Lib.hid (HT.out.below TG3.out BX.out)
              have BW5 := Lib.hid (BW3.out.trans (BX.out.mono BW3.out.size))
              have hs5 := BX.out.size
              clear h1 h5 h6 BX TG3 BW3 R3
              dsimp only
              have hss := str_nne l
              refine wpAny_take (i := 7) (oi := ?oi16) (v := .bool false) ?hi16 (by kernel_rfl) (by kernel_rfl) (by kernel_rfl) ?hQ16 ?hy16 ?rest16
              case hi16 => simp only [List.getElem?_toArray, List.getElem?_cons_succ, List.getElem?_cons_zero]; rfl
              case hQ16 => exact fun _ _ _ h => h
              case hy16 => exact Or.inl ⟨by rfl, by intro w; go_simp⟩
              try simp only [Act.put, List.setIfInBounds_toArray, List.set_cons_zero, List.set_cons_succ]
              refine wpAny_done (by kernel_rfl) ?_ _
              clear hss
              go_wp2_with fail
              go_roundw
              case rel => exact ⟨j + 1, a + k, by go_num, by go_num, by omega, by omega, by omega, by omega, TG5, BW5⟩
              case measure => simp [intOf]; omega
      · have hlb : decide ((j : Int) < (n : Int)) = true := by simp; omega
        have hlc : decide ((j : Int) < 15) = false := by simp; omega
        go_wp2_with fail
        go_ret
        exact ⟨rfl, BW.out⟩
    · have hlb : decide ((j : Int) < (n : Int)) = false := by simp; omega
      go_wp2_with fail
      go_ret
      exact ⟨rfl, BW.out⟩
end Go.Proofs.YtfnahdabjjiipaaDoor.tapeAll
