/-
  PROVED: for all parts and more the law ShaAll answers true (any bytes, in however many parts: the sum is the standard's; it stays as it was when more is written to a copy). CONDITIONS: none beyond the card's own.
-/
import Derived.Test.YtbepofmkfloajaaDoorParts
import Derived.Test.YtbepofmkfloajaaDoorTie
import Derived.Test.YtbepofmkfloajaaDoorCards
import Derived.OpenShut
import Derived.Stop.Joined
import Derived.SevenTiedAt
namespace Go.Proofs.YtbepofmkfloajaaDoor.shaAll
open Go.ChangeShapes Go.WideShapes Go.ChangeAt Go.RowKit
set_option linter.unusedVariables false
set_option linter.unusedSimpArgs false

set_option maxRecDepth 100000 in
set_option maxHeartbeats 4000000 in
theorem walk {A0 : Option Addr} {n0 c0 : Nat} {ps : List (List UInt8)} {A1 : Option Addr} {n1 c1 : Nat} {x1 : List UInt8} (w : World) (hg : Gl w) (hr0 : RdP w A0 n0 ps) (hn0 : n0 ≤ maxLen) (hr1 : Rd w A1 n1 c1 x1) :
    Calls Tryd.prog 3 #[.slice A0 n0 c0, .slice A1 n1 c1] w fun e w' => e = .returned (.bool true) ∧ Below w.heap.size w w' := by
  have HG := Lib.hid hg
  have hsz := hg.size
  have P0 := Lib.hid hr0
  have R1 := Lib.hid hr1
  clear hg hr0 hr1
  unfold maxLen at hn0
  go_enter Tryd.func3, Tryd.ntmps3
  go_wp2_with (go_at_call 15; refine (begun_any HG.out).mono ?_; rintro e w1 ⟨rfl, HB⟩; have W1 := Lib.hid HB; clear HB)
  refine (short_any 100 (R1.out.below W1.out) (by omega)).mono ?_
  rintro e w' ⟨A2, n2, c2, rfl, hr2, rfl⟩
  have R2 := Lib.hid hr2
  clear hr2
  have hl2 : n2 ≤ 100 := by rw [← R2.out.len, List.length_take]; omega
  clear R1
  obtain ⟨l2, hl2e⟩ : ∃ l, l = x1.take 100 := ⟨_, rfl⟩
  rw [← hl2e] at R2
  clear hl2e
  have N2 := Lib.hid R2.out.len
  have P1 := Lib.hid (P0.out.below W1.out)
  have hs1 := W1.out.size
  clear P0
  go_wp2_with fail
  refine (new_ex _).mono ?_
  rintro e w2 ⟨gs, rfl, hgs, hH, hX⟩
  have H2 := Lib.hid hH
  have X2 := Lib.hid hX
  have hs2 := hX.size
  clear hH hX
  go_wp2_with fail
  go_loopw [7, 8, 9] (fun va vl i wr => ∃ (k : Nat) (xs : List Value) (qs : List (List UInt8)), k ≤ 8 ∧ i = .int .i64 (k : Int) ∧ Hid (xs.length = k) ∧ Hid (qs.length = k) ∧ Hid (qs.flatten.length ≤ 100 * k) ∧
    Hid (∀ j, j < k → ∃ A n c, xs[j]? = some (.slice A n c) ∧ Rd w1 A n c (qs.getD j [])) ∧ Hid (Holds wr gs qs.flatten) ∧ Hid (Ow wr w2.heap.size va qs.flatten) ∧ Hid (OwP wr w2.heap.size vl xs) ∧ Hid (Below w1.heap.size w1 wr) ∧ w2.heap.size ≤ wr.heap.size) (fun _ _ i _ => 8 - (intOf i).toNat)
  case atStart => exact ⟨0, [], [], by omega, rfl, rfl, rfl, Nat.le_refl _, fun j hj => absurd hj (by omega), H2, Ow.empty _ _, OwP.empty _ _, X2, Nat.le_refl _⟩
  case round =>
    obtain ⟨va, rfl⟩ : ∃ v, v = u7 := ⟨_, rfl⟩
    obtain ⟨vl, rfl⟩ : ∃ v, v = u8 := ⟨_, rfl⟩
    clear H2 X2
    obtain ⟨k, xs, qs, hk, rfl, LX, LQ, LF, PX, HH, OA, OP, HB, hz2⟩ := hrel
    have hsr := HB.out.size
    have WR := Lib.hid (W1.out.trans (HB.out.mono hs1))
    have GR := Lib.hid (HG.out.below WR.out HG.out.size)
    have hgl := HH.out.lt
    have hlf := LF.out
    obtain ⟨T, hT⟩ : ∃ T, T = qs.flatten.length := ⟨_, rfl⟩
    rw [← hT] at hlf
    have LT : Hid (qs.flatten.length = T) := hT.symm
    clear hT LF
    by_cases hlt : k < n0 ∧ k < 8
    · obtain ⟨hk1, hk2⟩ := hlt
      obtain ⟨bb, off, A', n', c', hA, hbl, hcell, hrd⟩ := P1.out.at_ k hk1
      subst hA
      have e0 : wr.cell? ⟨bb, off + k, none⟩ = some (.slice A' n' c') := (HB.out.cell (p := ⟨bb, off + k, none⟩) hbl).trans hcell
      have d1 : decide ((k : Int) < (n0 : Int)) = true := by simp; omega
      have d1' : decide (k < n0) = true := by simp; omega
      have d2 : decide ((k : Int) < 8) = true := by simp; omega
      have hcap := hrd.cap
      have hmax := hrd.max
      have hq := hrd.short 100
      obtain ⟨q, hqe⟩ : ∃ q, q = (ps.getD k []).take 100 := ⟨_, rfl⟩
      obtain ⟨n3, hn3⟩ : ∃ n3, n3 = min n' 100 := ⟨_, rfl⟩
      rw [← hqe, ← hn3] at hq
      have hn3' : n3 ≤ 100 := by omega
      have HN3 := Lib.hid hn3
      have R3 := Lib.hid hq
      have N3 := Lib.hid hq.len
      have AP := Lib.hid (hq.apart (g := gs) hgs)
      clear hqe hq hrd hcell hn3
      go_wp2_with fail
      refine (short_eq 100 hcap hmax (by omega)).mono ?_
      rintro e w' ⟨rfl, rfl⟩
      rw [← HN3.out]
      clear e0 d1 d1' d2
      go_wp2_with fail
      refine (write_any GR.out (by omega) HH.out (R3.out.below HB.out) AP.out (by rw [LT.out, N3.out]; omega)).mono ?_
      rintro e w3 ⟨rfl, Y3, O3⟩
      have H3 : Hid (Holds w3 gs (qs.flatten ++ q)) := Y3.holds
      have OA3 : Hid (Ow w3 w2.heap.size va qs.flatten) := OA.out.kept O3 (.inr fun e => HH.out.bytes_ne OA.out e.symm)
      have OP3 : Hid (OwP w3 w2.heap.size vl xs) := OP.out.kept O3 (.inr fun e => HH.out.parts_ne OP.out e.symm)
      have B3 : Hid (Below w1.heap.size w1 w3) := below_of_only HB.out O3 hgs hsr
      have hs3 := O3.size
      clear Y3 O3 HH OA OP HB WR GR AP
      go_upto_region 14 with (first | (at_builtin; refine onto_grown rfl (.tmp 37) _ rfl rfl rfl (R3.out.below B3.out) OA3.out (by rw [LT.out]; omega) (by omega) (Below.refl _ w3) ?_; intro v4 w4 O4 X4 Q4))
      obtain ⟨A4, c4, rfl, _, _⟩ := O4.out.value
      have e4 : (qs.flatten ++ q).length = T + n3 := by rw [List.length_append, LT.out, N3.out]
      have L4 := Lib.hid e4
      rw [e4] at O4
      rw [e4]
      clear e4
      have H4 : Hid (Holds w4 gs (qs.flatten ++ q)) := H3.out.keep (Q4.out.block gs H3.out.lt (H3.out.bytes_ne OA3.out))
      have OP4 : Hid (OwP w4 w2.heap.size vl xs) := OP3.out.kept Q4.out (rows_apart OP3.out OA3.out (by decide))
      have B4 := Lib.hid (B3.out.trans (X4.out.mono hs2))
      have hs4 := X4.out.size
      clear X4 Q4 H3 OA3 OP3 B3
      go_upto_region 15 with (first | (at_builtin; refine push_part rfl (.tmp 40) _ rfl rfl rfl rfl OP4.out (by rw [LX.out]; omega) (by omega) (Below.refl _ w4) ?_; intro v5 w5 O5 X5 Q5))
      have H5 : Hid (Holds w5 gs (qs.flatten ++ q)) := H4.out.keep (Q5.out.block gs H4.out.lt (H4.out.parts_ne OP4.out))
      have OA5 : Hid (Ow w5 w2.heap.size (.slice A4 (T + n3) c4) (qs.flatten ++ q)) := O4.out.kept Q5.out (rows_apart O4.out OP4.out (by decide))
      have B5 := Lib.hid (B4.out.trans (X5.out.mono hs2))
      have W5 := Lib.hid (W1.out.trans (B5.out.mono hs1))
      have G5 := Lib.hid (HG.out.below W5.out HG.out.size)
      have hs5 := X5.out.size
      clear X5 Q5 H4 O4 OP4 B4
      go_wp2_with fail
      refine (sum_ex G5.out H5.out (by rw [L4.out]; omega)).mono ?_
      rintro e w6 ⟨D, rfl, hS, hX⟩
      have HS := Lib.hid hS
      have H6 : Hid (Holds w6 gs (qs.flatten ++ q)) := H5.out.keep (hX.block gs H5.out.lt)
      have OA6 := Lib.hid (OA5.out.keep hX)
      have OP6 := Lib.hid (O5.out.keep hX)
      have B6 := Lib.hid (B5.out.trans (hX.mono B5.out.size))
      have hs6 := hX.size
      clear hS hX H5 OA5 O5 B5 W5 G5
      go_wp2_with fail
      refine (rsum_any (OA6.out.rdv L4.out) (by omega)).mono ?_
      rintro e w7 ⟨D2, rfl, hS, hX⟩
      obtain rfl := HS.out.uniq hS
      have hq := fun W => HS.out.self W
      have H7 : Hid (Holds w7 gs (qs.flatten ++ q)) := H6.out.keep (hX.block gs H6.out.lt)
      have OA7 := Lib.hid (OA6.out.keep hX)
      have OP7 := Lib.hid (OP6.out.keep hX)
      have B7 := Lib.hid (B6.out.trans (hX.mono B6.out.size))
      have hs7 := hX.size
      clear hS hX H6 OA6 OP6 B6
      go_wp2_with fail
      clear hq
      go_roundw
      case rel =>
        have ef : (qs ++ [q]).flatten = qs.flatten ++ q := by simp
        refine ⟨k + 1, xs ++ [.slice A' n3 c'], qs ++ [q], by omega, by go_num, ?_, ?_, ?_, ?_, ?_, ?_, OP7, B7, by omega⟩
        · unfold Hid; rw [List.length_append, LX.out]; rfl
        · unfold Hid; rw [List.length_append, LQ.out]; rfl
        · unfold Hid; rw [ef, L4.out]; omega
        · intro j hj
          by_cases hjk : j < k
          · obtain ⟨A, n, c, h1, h2⟩ := PX.out j hjk
            refine ⟨A, n, c, ?_, ?_⟩
            · rw [List.getElem?_append_left (by rw [LX.out]; exact hjk)]; exact h1
            · rw [List.getD_eq_getElem?_getD, List.getElem?_append_left (by rw [LQ.out]; exact hjk), ← List.getD_eq_getElem?_getD]; exact h2
          · obtain rfl : j = k := by omega
            refine ⟨A', n3, c', ?_, ?_⟩
            · rw [List.getElem?_append_right (by rw [LX.out]; omega), LX.out]; simp
            · rw [List.getD_eq_getElem?_getD, List.getElem?_append_right (by rw [LQ.out]; omega), LQ.out]; simpa using R3.out
        · unfold Hid; rw [ef]; exact H7.out
        · unfold Hid; rw [ef]; exact OA7.out
      case measure => simp [intOf]; omega
    · by_cases hk1 : k < n0
      · have d1 : decide ((k : Int) < (n0 : Int)) = true := by simp; omega
        have d1' : decide (k < n0) = true := by simp; omega
        have d2 : decide ((k : Int) < 8) = false := by simp; omega
        clear hlt
        obtain ⟨Aa, ca, rfl, hra, _⟩ := OA.out.value
        rw [LT.out] at hra
        rw [LT.out]
        obtain ⟨Al, cl, rfl, hrl⟩ := OP.out.parts (ps := qs) (by rw [LX.out, LQ.out]) (fun j hj => by
          obtain ⟨A, n, c, h1, h2⟩ := PX.out j (by rw [← LX.out]; exact hj)
          exact ⟨A, n, c, h1, h2.below HB.out⟩)
        rw [LX.out] at hrl
        rw [LX.out]
        have RA := Lib.hid hra
        have RL := Lib.hid hrl
        have RM := Lib.hid (R2.out.below HB.out)
        clear hra hrl OA OP PX
        go_wp2_with fail
        refine (copy_ex HH.out).mono ?_
        rintro e w3 ⟨gc, rfl, hgc, hH, hX⟩
        have HC := Lib.hid hH
        have X3 := Lib.hid hX
        have AP := Lib.hid (RM.out.apart (g := gc) hgc)
        have W3 := Lib.hid (WR.out.trans (hX.mono WR.out.size))
        have G3 := Lib.hid (HG.out.below W3.out HG.out.size)
        have RM3 := Lib.hid (RM.out.below hX)
        have hs3 := hX.size
        clear hH hX
        go_wp2_with fail
        refine (write_any G3.out (by omega) HC.out RM3.out AP.out (by rw [LT.out, N2.out]; omega)).mono ?_
        rintro e w4 ⟨rfl, Y4, O4⟩
        have C4 : Hid (Holds w4 gc (qs.flatten ++ l2)) := Y4.holds
        have B4 : Hid (Below wr.heap.size wr w4) := below_of_only X3.out O4 hgc (by omega)
        have W4 := Lib.hid (WR.out.trans (B4.out.mono WR.out.size))
        have S4 : Hid (Holds w4 gs qs.flatten) := HH.out.keep (B4.out.block gs hgl)
        have A4 := Lib.hid (RA.out.below B4.out)
        have L4 := Lib.hid (RL.out.below B4.out)
        have M4 := Lib.hid (RM.out.below B4.out)
        have hs4 := B4.out.size
        clear Y4 O4 HC X3 AP W3 G3 RM3 B4 HH RA RL RM
        go_wp2_with (first
          | (at_builtin; refine onto_law rfl (.const (.slice none 0 0)) _ rfl rfl rfl A4.out (Ow.empty _ w4.heap.size) (by simp; omega) (Nat.le_refl _) (Below.refl _ _) ?_; intro v5 w5 O5 X5)
          | (at_builtin; refine onto_law rfl (.tmp 57) _ rfl rfl rfl (M4.out.below X5.out) O5.out (by rw [List.nil_append, LT.out]; omega) X5.out.size X5.out ?_; intro v6 w6 O6 X6))
        rw [List.nil_append] at O6
        obtain ⟨A6, c6, rfl, hr6, _⟩ := O6.out.value
        have e6 : (qs.flatten ++ l2).length = T + n2 := by rw [List.length_append, LT.out, N2.out]
        rw [e6] at hr6
        rw [e6]
        have E6 := Lib.hid e6
        have w6r := Lib.hid hr6
        have W6 := Lib.hid (W4.out.trans (X6.out.mono W4.out.size))
        have G6 := Lib.hid (HG.out.below W6.out HG.out.size)
        have S6 : Hid (Holds w6 gs qs.flatten) := S4.out.keep (X6.out.block gs S4.out.lt)
        have C6 : Hid (Holds w6 gc (qs.flatten ++ l2)) := C4.out.keep (X6.out.block gc C4.out.lt)
        have A6r := Lib.hid (A4.out.below X6.out)
        have L6 := Lib.hid (L4.out.below X6.out)
        clear hr6 e6 O5 O6 X5 X6 A4 L4 M4 S4 C4 W4
        have RW6 := w6r
        have RA6 := A6r
        clear w6r A6r
        refine (shaSum_any G6.out L6.out (by omega) (by rw [LT.out]; omega)).mono ?_
        rintro e w7 ⟨D7, rfl, hS, hX⟩
        have SS := Lib.hid hS
        have hqSS := fun W => SS.out.self W
        clear hS
        clear L6
        have W7 := Lib.hid (W6.out.trans (hX.mono W6.out.size))
        have G7 := Lib.hid (HG.out.below W7.out HG.out.size)
        have S7 : Hid (Holds w7 gs qs.flatten) := S6.out.keep (hX.block gs S6.out.lt)
        have C7 : Hid (Holds w7 gc (qs.flatten ++ l2)) := C6.out.keep (hX.block gc C6.out.lt)
        have RA7 := Lib.hid (RA6.out.below hX)
        have RW7 := Lib.hid (RW6.out.below hX)
        clear hX W6 G6 S6 C6 RA6 RW6
        go_wp2_with fail
        refine (rsum_any RA7.out (by omega)).mono ?_
        rintro e w8 ⟨D8, rfl, hS, hX⟩
        obtain rfl := SS.out.uniq hS
        clear hS
        have W8 := Lib.hid (W7.out.trans (hX.mono W7.out.size))
        have G8 := Lib.hid (HG.out.below W8.out HG.out.size)
        have S8 : Hid (Holds w8 gs qs.flatten) := S7.out.keep (hX.block gs S7.out.lt)
        have C8 : Hid (Holds w8 gc (qs.flatten ++ l2)) := C7.out.keep (hX.block gc C7.out.lt)
        have RA8 := Lib.hid (RA7.out.below hX)
        have RW8 := Lib.hid (RW7.out.below hX)
        clear hX W7 G7 S7 C7 RA7 RW7
        go_wp2_with fail
        refine (sum_ex G8.out S8.out (by rw [LT.out]; omega)).mono ?_
        rintro e w9 ⟨D9, rfl, hS, hX⟩
        obtain rfl := SS.out.uniq hS
        clear hS
        have W9 := Lib.hid (W8.out.trans (hX.mono W8.out.size))
        have G9 := Lib.hid (HG.out.below W9.out HG.out.size)
        have S9 : Hid (Holds w9 gs qs.flatten) := S8.out.keep (hX.block gs S8.out.lt)
        have C9 : Hid (Holds w9 gc (qs.flatten ++ l2)) := C8.out.keep (hX.block gc C8.out.lt)
        have RA9 := Lib.hid (RA8.out.below hX)
        have RW9 := Lib.hid (RW8.out.below hX)
        clear hX W8 G8 S8 C8 RA8 RW8
        go_wp2_with fail
        refine (rsum_any RA9.out (by omega)).mono ?_
        rintro e w10 ⟨D10, rfl, hS, hX⟩
        obtain rfl := SS.out.uniq hS
        clear hS
        have W10 := Lib.hid (W9.out.trans (hX.mono W9.out.size))
        have G10 := Lib.hid (HG.out.below W10.out HG.out.size)
        have S10 : Hid (Holds w10 gs qs.flatten) := S9.out.keep (hX.block gs S9.out.lt)
        have C10 : Hid (Holds w10 gc (qs.flatten ++ l2)) := C9.out.keep (hX.block gc C9.out.lt)
        have RA10 := Lib.hid (RA9.out.below hX)
        have RW10 := Lib.hid (RW9.out.below hX)
        clear hX W9 G9 S9 C9 RA9 RW9
        go_wp2_with fail
        refine (sum_ex G10.out C10.out (by rw [E6.out]; omega)).mono ?_
        rintro e w11 ⟨D11, rfl, hS, hX⟩
        have SC := Lib.hid hS
        have hqSC := fun W => SC.out.self W
        clear hS
        have W11 := Lib.hid (W10.out.trans (hX.mono W10.out.size))
        have G11 := Lib.hid (HG.out.below W11.out HG.out.size)
        have S11 : Hid (Holds w11 gs qs.flatten) := S10.out.keep (hX.block gs S10.out.lt)
        have C11 : Hid (Holds w11 gc (qs.flatten ++ l2)) := C10.out.keep (hX.block gc C10.out.lt)
        have RA11 := Lib.hid (RA10.out.below hX)
        have RW11 := Lib.hid (RW10.out.below hX)
        clear hX W10 G10 S10 C10 RA10 RW10
        go_wp2_with fail
        refine (rsum_any RW11.out (by omega)).mono ?_
        rintro e w12 ⟨D12, rfl, hS, hX⟩
        obtain rfl := SC.out.uniq hS
        clear hS
        have W12 := Lib.hid (W11.out.trans (hX.mono W11.out.size))
        have G12 := Lib.hid (HG.out.below W12.out HG.out.size)
        have S12 : Hid (Holds w12 gs qs.flatten) := S11.out.keep (hX.block gs S11.out.lt)
        have C12 : Hid (Holds w12 gc (qs.flatten ++ l2)) := C11.out.keep (hX.block gc C11.out.lt)
        have RA12 := Lib.hid (RA11.out.below hX)
        have RW12 := Lib.hid (RW11.out.below hX)
        clear hX W11 G11 S11 C11 RA11 RW11
        go_wp2_with fail
        refine (sum_ex G12.out S12.out (by rw [LT.out]; omega)).mono ?_
        rintro e w13 ⟨D13, rfl, hS, hX⟩
        obtain rfl := SS.out.uniq hS
        clear hS
        have W13 := Lib.hid (W12.out.trans (hX.mono W12.out.size))
        have G13 := Lib.hid (HG.out.below W13.out HG.out.size)
        have S13 : Hid (Holds w13 gs qs.flatten) := S12.out.keep (hX.block gs S12.out.lt)
        have C13 : Hid (Holds w13 gc (qs.flatten ++ l2)) := C12.out.keep (hX.block gc C12.out.lt)
        have RA13 := Lib.hid (RA12.out.below hX)
        have RW13 := Lib.hid (RW12.out.below hX)
        clear hX W12 G12 S12 C12 RA12 RW12
        go_wp2_with fail
        refine (rsum_any RA13.out (by omega)).mono ?_
        rintro e w14 ⟨D14, rfl, hS, hX⟩
        obtain rfl := SS.out.uniq hS
        clear hS
        have W14 := Lib.hid (W13.out.trans (hX.mono W13.out.size))
        have G14 := Lib.hid (HG.out.below W14.out HG.out.size)
        have S14 : Hid (Holds w14 gs qs.flatten) := S13.out.keep (hX.block gs S13.out.lt)
        have C14 : Hid (Holds w14 gc (qs.flatten ++ l2)) := C13.out.keep (hX.block gc C13.out.lt)
        have RA14 := Lib.hid (RA13.out.below hX)
        have RW14 := Lib.hid (RW13.out.below hX)
        clear hX W13 G13 S13 C13 RA13 RW13
        go_wp2_with fail
        go_ret
        exact ⟨rfl, W14.out⟩
      · have d1 : decide ((k : Int) < (n0 : Int)) = false := by simp; omega
        have d1' : decide (k < n0) = false := by simp; omega
        clear hlt
        obtain ⟨Aa, ca, rfl, hra, _⟩ := OA.out.value
        rw [LT.out] at hra
        rw [LT.out]
        obtain ⟨Al, cl, rfl, hrl⟩ := OP.out.parts (ps := qs) (by rw [LX.out, LQ.out]) (fun j hj => by
          obtain ⟨A, n, c, h1, h2⟩ := PX.out j (by rw [← LX.out]; exact hj)
          exact ⟨A, n, c, h1, h2.below HB.out⟩)
        rw [LX.out] at hrl
        rw [LX.out]
        have RA := Lib.hid hra
        have RL := Lib.hid hrl
        have RM := Lib.hid (R2.out.below HB.out)
        clear hra hrl OA OP PX
        go_wp2_with fail
        refine (copy_ex HH.out).mono ?_
        rintro e w3 ⟨gc, rfl, hgc, hH, hX⟩
        have HC := Lib.hid hH
        have X3 := Lib.hid hX
        have AP := Lib.hid (RM.out.apart (g := gc) hgc)
        have W3 := Lib.hid (WR.out.trans (hX.mono WR.out.size))
        have G3 := Lib.hid (HG.out.below W3.out HG.out.size)
        have RM3 := Lib.hid (RM.out.below hX)
        have hs3 := hX.size
        clear hH hX
        go_wp2_with fail
        refine (write_any G3.out (by omega) HC.out RM3.out AP.out (by rw [LT.out, N2.out]; omega)).mono ?_
        rintro e w4 ⟨rfl, Y4, O4⟩
        have C4 : Hid (Holds w4 gc (qs.flatten ++ l2)) := Y4.holds
        have B4 : Hid (Below wr.heap.size wr w4) := below_of_only X3.out O4 hgc (by omega)
        have W4 := Lib.hid (WR.out.trans (B4.out.mono WR.out.size))
        have S4 : Hid (Holds w4 gs qs.flatten) := HH.out.keep (B4.out.block gs hgl)
        have A4 := Lib.hid (RA.out.below B4.out)
        have L4 := Lib.hid (RL.out.below B4.out)
        have M4 := Lib.hid (RM.out.below B4.out)
        have hs4 := B4.out.size
        clear Y4 O4 HC X3 AP W3 G3 RM3 B4 HH RA RL RM
        go_wp2_with (first
          | (at_builtin; refine onto_law rfl (.const (.slice none 0 0)) _ rfl rfl rfl A4.out (Ow.empty _ w4.heap.size) (by simp; omega) (Nat.le_refl _) (Below.refl _ _) ?_; intro v5 w5 O5 X5)
          | (at_builtin; refine onto_law rfl (.tmp 57) _ rfl rfl rfl (M4.out.below X5.out) O5.out (by rw [List.nil_append, LT.out]; omega) X5.out.size X5.out ?_; intro v6 w6 O6 X6))
        rw [List.nil_append] at O6
        obtain ⟨A6, c6, rfl, hr6, _⟩ := O6.out.value
        have e6 : (qs.flatten ++ l2).length = T + n2 := by rw [List.length_append, LT.out, N2.out]
        rw [e6] at hr6
        rw [e6]
        have E6 := Lib.hid e6
        have w6r := Lib.hid hr6
        have W6 := Lib.hid (W4.out.trans (X6.out.mono W4.out.size))
        have G6 := Lib.hid (HG.out.below W6.out HG.out.size)
        have S6 : Hid (Holds w6 gs qs.flatten) := S4.out.keep (X6.out.block gs S4.out.lt)
        have C6 : Hid (Holds w6 gc (qs.flatten ++ l2)) := C4.out.keep (X6.out.block gc C4.out.lt)
        have A6r := Lib.hid (A4.out.below X6.out)
        have L6 := Lib.hid (L4.out.below X6.out)
        clear hr6 e6 O5 O6 X5 X6 A4 L4 M4 S4 C4 W4
        have RW6 := w6r
        have RA6 := A6r
        clear w6r A6r
        refine (shaSum_any G6.out L6.out (by omega) (by rw [LT.out]; omega)).mono ?_
        rintro e w7 ⟨D7, rfl, hS, hX⟩
        have SS := Lib.hid hS
        have hqSS := fun W => SS.out.self W
        clear hS
        clear L6
        have W7 := Lib.hid (W6.out.trans (hX.mono W6.out.size))
        have G7 := Lib.hid (HG.out.below W7.out HG.out.size)
        have S7 : Hid (Holds w7 gs qs.flatten) := S6.out.keep (hX.block gs S6.out.lt)
        have C7 : Hid (Holds w7 gc (qs.flatten ++ l2)) := C6.out.keep (hX.block gc C6.out.lt)
        have RA7 := Lib.hid (RA6.out.below hX)
        have RW7 := Lib.hid (RW6.out.below hX)
        clear hX W6 G6 S6 C6 RA6 RW6
        go_wp2_with fail
        refine (rsum_any RA7.out (by omega)).mono ?_
        rintro e w8 ⟨D8, rfl, hS, hX⟩
        obtain rfl := SS.out.uniq hS
        clear hS
        have W8 := Lib.hid (W7.out.trans (hX.mono W7.out.size))
        have G8 := Lib.hid (HG.out.below W8.out HG.out.size)
        have S8 : Hid (Holds w8 gs qs.flatten) := S7.out.keep (hX.block gs S7.out.lt)
        have C8 : Hid (Holds w8 gc (qs.flatten ++ l2)) := C7.out.keep (hX.block gc C7.out.lt)
        have RA8 := Lib.hid (RA7.out.below hX)
        have RW8 := Lib.hid (RW7.out.below hX)
        clear hX W7 G7 S7 C7 RA7 RW7
        go_wp2_with fail
        refine (sum_ex G8.out S8.out (by rw [LT.out]; omega)).mono ?_
        rintro e w9 ⟨D9, rfl, hS, hX⟩
        obtain rfl := SS.out.uniq hS
        clear hS
        have W9 := Lib.hid (W8.out.trans (hX.mono W8.out.size))
        have G9 := Lib.hid (HG.out.below W9.out HG.out.size)
        have S9 : Hid (Holds w9 gs qs.flatten) := S8.out.keep (hX.block gs S8.out.lt)
        have C9 : Hid (Holds w9 gc (qs.flatten ++ l2)) := C8.out.keep (hX.block gc C8.out.lt)
        have RA9 := Lib.hid (RA8.out.below hX)
        have RW9 := Lib.hid (RW8.out.below hX)
        clear hX W8 G8 S8 C8 RA8 RW8
        go_wp2_with fail
        refine (rsum_any RA9.out (by omega)).mono ?_
        rintro e w10 ⟨D10, rfl, hS, hX⟩
        obtain rfl := SS.out.uniq hS
        clear hS
        have W10 := Lib.hid (W9.out.trans (hX.mono W9.out.size))
        have G10 := Lib.hid (HG.out.below W10.out HG.out.size)
        have S10 : Hid (Holds w10 gs qs.flatten) := S9.out.keep (hX.block gs S9.out.lt)
        have C10 : Hid (Holds w10 gc (qs.flatten ++ l2)) := C9.out.keep (hX.block gc C9.out.lt)
        have RA10 := Lib.hid (RA9.out.below hX)
        have RW10 := Lib.hid (RW9.out.below hX)
        clear hX W9 G9 S9 C9 RA9 RW9
        go_wp2_with fail
        refine (sum_ex G10.out C10.out (by rw [E6.out]; omega)).mono ?_
        rintro e w11 ⟨D11, rfl, hS, hX⟩
        have SC := Lib.hid hS
        have hqSC := fun W => SC.out.self W
        clear hS
        have W11 := Lib.hid (W10.out.trans (hX.mono W10.out.size))
        have G11 := Lib.hid (HG.out.below W11.out HG.out.size)
        have S11 : Hid (Holds w11 gs qs.flatten) := S10.out.keep (hX.block gs S10.out.lt)
        have C11 : Hid (Holds w11 gc (qs.flatten ++ l2)) := C10.out.keep (hX.block gc C10.out.lt)
        have RA11 := Lib.hid (RA10.out.below hX)
        have RW11 := Lib.hid (RW10.out.below hX)
        clear hX W10 G10 S10 C10 RA10 RW10
        go_wp2_with fail
        refine (rsum_any RW11.out (by omega)).mono ?_
        rintro e w12 ⟨D12, rfl, hS, hX⟩
        obtain rfl := SC.out.uniq hS
        clear hS
        have W12 := Lib.hid (W11.out.trans (hX.mono W11.out.size))
        have G12 := Lib.hid (HG.out.below W12.out HG.out.size)
        have S12 : Hid (Holds w12 gs qs.flatten) := S11.out.keep (hX.block gs S11.out.lt)
        have C12 : Hid (Holds w12 gc (qs.flatten ++ l2)) := C11.out.keep (hX.block gc C11.out.lt)
        have RA12 := Lib.hid (RA11.out.below hX)
        have RW12 := Lib.hid (RW11.out.below hX)
        clear hX W11 G11 S11 C11 RA11 RW11
        go_wp2_with fail
        refine (sum_ex G12.out S12.out (by rw [LT.out]; omega)).mono ?_
        rintro e w13 ⟨D13, rfl, hS, hX⟩
        obtain rfl := SS.out.uniq hS
        clear hS
        have W13 := Lib.hid (W12.out.trans (hX.mono W12.out.size))
        have G13 := Lib.hid (HG.out.below W13.out HG.out.size)
        have S13 : Hid (Holds w13 gs qs.flatten) := S12.out.keep (hX.block gs S12.out.lt)
        have C13 : Hid (Holds w13 gc (qs.flatten ++ l2)) := C12.out.keep (hX.block gc C12.out.lt)
        have RA13 := Lib.hid (RA12.out.below hX)
        have RW13 := Lib.hid (RW12.out.below hX)
        clear hX W12 G12 S12 C12 RA12 RW12
        go_wp2_with fail
        refine (rsum_any RA13.out (by omega)).mono ?_
        rintro e w14 ⟨D14, rfl, hS, hX⟩
        obtain rfl := SS.out.uniq hS
        clear hS
        have W14 := Lib.hid (W13.out.trans (hX.mono W13.out.size))
        have G14 := Lib.hid (HG.out.below W14.out HG.out.size)
        have S14 : Hid (Holds w14 gs qs.flatten) := S13.out.keep (hX.block gs S13.out.lt)
        have C14 : Hid (Holds w14 gc (qs.flatten ++ l2)) := C13.out.keep (hX.block gc C13.out.lt)
        have RA14 := Lib.hid (RA13.out.below hX)
        have RW14 := Lib.hid (RW13.out.below hX)
        clear hX W13 G13 S13 C13 RA13 RW13
        go_wp2_with fail
        go_ret
        exact ⟨rfl, W14.out⟩

set_option maxRecDepth 100000 in
theorem lifted (os : Os) (started : os.Started) (H : Type) (enc : TypeId × Value → H) :
    ReturnsInHanded {} Tryd.checked os 3 .any (fun w args => (Rows.shaAllSpec.pre enc Tryd.prog Tryd.f3 [] false w args ∧ laidMetH Tryd.prog laid2 w) ∧ sizedMet enc Tryd.prog Tryd.f3 (OpenSpec.ofChange Rows.shaAllSpec) false w args)
      (Rows.shaAllSpec.post enc Tryd.prog Tryd.f3 false true false false) := by
  refine returnsInHanded_of_change_and (C := Tryd.checked) (X := fun w _ => laidMetH Tryd.prog laid2 w) (fun _ _ _ hh h => h.of_heap hh) own started (by kernel_rfl) Tryd.func3
    (ChangeSpec.witness_shaped (enc := enc) (C := Tryd.checked) (os := os) (X := fun w _ => laidMetH Tryd.prog laid2 w) false (World.doorLaid Tryd.prog 400 os) #[.slice none 0 0, .slice none 0 0] 8 rfl (World.shaped_of_RefB (by kernel_rfl) (by kernel_rfl)) (by kernel_rfl) (by kernel_rfl) (by kernel_rfl) (door_met os _)) ?_
  intro W base args ds gs before hval0 hW _ _ hL _
  have hval : ∀ (j : Nat) t v, Tryd.f3.params[j]? = some t → args[j]? = some v → Value.okWide Tryd.prog W .any base t v := hval0
  have hW' := hW
  obtain ⟨p, q, hA0, hV, rfl, hfz, hnd⟩ := hW
  have hA : DataW.TrodAll enc Tryd.prog W 0 (fun _ => true) true Tryd.f3.params.toList args.toList ds p := hA0
  rw [Tryd.params3] at hA hval
  have hG := gl_of_laid hL
  obtain ⟨v0, vs0, d0, ds0, p0, q0, hargs, rfl, rfl, h0, r0⟩ := trodAll_cons hA
  obtain ⟨v1, vs1, d1, ds1, p1, q1, rfl, rfl, rfl, h1, r1⟩ := trodAll_cons r0
  obtain ⟨rfl, rfl, rfl⟩ := trodAll_nil r1
  obtain rfl : args = #[v0, v1] := by cases args; simp_all
  obtain ⟨rfl, rfl⟩ := trodVars_none hV
  obtain ⟨a0, len0, cap0, rfl⟩ := okWide_slice Tryd.underlying22 (hval 0 22 v0 rfl rfl)
  have k0 := h0
  have lt0 : ∀ x ∈ p0, x.block < W.heap.size := by obtain ⟨m, hm⟩ := k0; exact DataW.trod_lt m _ _ _ hm
  obtain ⟨⟨l0, hr0⟩, hn0⟩ : (∃ l, RdP W a0 len0 l) ∧ len0 ≤ maxLen := by
    obtain ⟨fuel, hf⟩ := h0
    rcases Go.Deep.open_int_rows Tryd.underlying22 Tryd.underlying23 Tryd.underlying5 (by kernel_rfl) (by kernel_rfl) hf with ⟨hcs, _⟩ | ⟨x, l, c, A, L, C, Z, hcs, _, hl, hm, _, hx⟩
    · simp [Value.cells] at hcs
      obtain ⟨rfl, rfl, rfl⟩ := hcs
      exact ⟨⟨[], rfl, fun j hj => by omega⟩, by unfold maxLen; omega⟩
    · simp [Value.cells] at hcs
      obtain ⟨rfl, rfl, rfl⟩ := hcs
      exact ⟨rdp_came hl hx, by omega⟩
  obtain ⟨a1, len1, cap1, rfl⟩ := okWide_slice Tryd.underlying23 (hval 1 23 v1 rfl rfl)
  have k1 := h1
  have lt1 : ∀ x ∈ p1, x.block < W.heap.size := by obtain ⟨m, hm⟩ := k1; exact DataW.trod_lt m _ _ _ hm
  obtain ⟨l1, hr1⟩ : ∃ l, Rd W a1 len1 cap1 l := by
    obtain ⟨fuel, hf⟩ := h1
    rcases open_ints Tryd.underlying23 Tryd.underlying5 (by kernel_rfl) hf with ⟨hcs, _⟩ | ⟨x, l, c, zs, hcs, _, hl, hm, hz, _, hcell, hwz⟩
    · simp [Value.cells] at hcs
      obtain ⟨rfl, rfl, rfl⟩ := hcs
      exact rd_came (zs := []) (.inl ⟨rfl, rfl, rfl, rfl⟩)
    · simp [Value.cells] at hcs
      obtain ⟨rfl, rfl, rfl⟩ := hcs
      exact rd_came (.inr ⟨_, rfl, hl, hm, by simpa using hz, hcell, hwz⟩)
  clear hA0 hval0
  refine (walk W hG hr0 hn0 hr1).mono fun e W' ⟨he, bel⟩ => ?_
  subst he
  exact ⟨_, rfl, _, _, _, [], _, [], hW', trodAll_mk1 (shut_bool Tryd.underlying4 _), (trodAll_cons_mk (Below.trod laidOut (by kernel_rfl) (of_decide_eq_true (by kernel_rfl)) k0 bel lt0) (trodAll_cons_mk (Below.trod laidOut (by kernel_rfl) (of_decide_eq_true (by kernel_rfl)) k1 bel lt1) trodAll_mk0)), rfl, bel.frame _, fun h => by cases h⟩

theorem over : Rows.shaAllRow.holds Tryd.pinned (OpenSpec.ofChange Rows.shaAllSpec) :=
  OpenClaim.holds_of_wide 3 Tryd.f3 rfl rfl rfl rfl rfl rfl rfl ⟨rfl, rfl, rfl, rfl, rfl⟩ rfl rfl rfl rfl rfl (by kernel_rfl) Tryd.func3 (by kernel_rfl)
    (of_decide_eq_true (by kernel_rfl)) (by unfold Func.isWrapper; first | (rw [if_pos (by decide +kernel)]; kernel_rfl) | (rw [if_neg (by decide +kernel)]; exact ⟨rfl, rfl⟩))
    (fun os started H enc _ => lifted os started H enc)
end Go.Proofs.YtbepofmkfloajaaDoor.shaAll
namespace Go.Proofs.YtbepofmkfloajaaDoor
theorem shaAll_card : Rows.ShaAllCardSaid :=
  Claim7.holds_tied_plain_at .later [] [.data, .data] true (true, "ac81aa9bd4a0dec26816718b789ea913be61d5e2860e2b9353823b24d89e6bc9") false
    shaAll.over (fun _ h => by cases h) (by kernel_rfl) (fun _ h => by cases h) shaAll_row_tie rfl ⟨rfl, rfl⟩ (by kernel_rfl) rfl
    (fun f fn hf hfn => by
      obtain rfl : f = 3 := Option.some.inj ((show Tryd.prog.funcNamed Tryd.f3.name = some 3 by kernel_rfl).symm.trans hf) |>.symm
      obtain rfl : fn = Tryd.f3 := (Option.some.inj (Tryd.func3.symm.trans hfn)).symm
      exact ⟨by kernel_rfl, fun j t ht => by
        rw [Tryd.params3] at ht
        have hm : t ∈ [22, 23] := by simpa using Array.mem_of_getElem? ht
        have hall : (([22, 23] : List TypeId).all fun u => !Tryd.prog.wantsStandIn u) = true := by kernel_rfl
        exact (show Tryd.prog.wantsStandIn t = false by simpa using List.all_eq_true.1 hall t hm)⟩)
    (by kernel_rfl)
#print axioms shaAll_card
end Go.Proofs.YtbepofmkfloajaaDoor
