/-
  PROVED: for all b and cuts the law ShaParts answers true (however a message is parted, in one state or at once, the sum is the standard's). CONDITIONS: none beyond the card's own.
-/
import Derived.Test.YtbepofmkfloajaaDoorConv
import Derived.Test.YtbepofmkfloajaaDoorTie
import Derived.Test.YtbepofmkfloajaaDoorCards
import Derived.OpenShut
import Derived.Stop.Joined
import Derived.SevenTiedAt
namespace Go.Proofs.YtbepofmkfloajaaDoor.shaParts
open Go.ChangeShapes Go.WideShapes Go.ChangeAt Go.RowKit
set_option linter.unusedVariables false
set_option linter.unusedSimpArgs false

theorem one (l : List UInt8) : [l].flatten = l := by simp
/-- The numbers of a slice can be read. -/
def RdN (w : World) (A : Option Addr) (n : Nat) : Prop := 0 < n → ∃ b off, A = some ⟨b, off, none⟩ ∧ b < w.heap.size ∧ ∀ j, j < n → ∃ z : Int, w.cell? ⟨b, off + j, none⟩ = some (.int .i64 z) ∧ -9223372036854775808 ≤ z ∧ z ≤ 9223372036854775807
theorem RdN.below {w w' : World} {A : Option Addr} {n : Nat} (h : RdN w A n) (hb : Below w.heap.size w w') : RdN w' A n := fun h0 => by
  obtain ⟨b, off, e, hlt, hc⟩ := h h0
  have hs := hb.size
  refine ⟨b, off, e, by omega, fun j hj => ?_⟩
  obtain ⟨z, hz, hr⟩ := hc j hj
  refine ⟨z, ?_, hr⟩
  rw [← hz]
  exact hb.cell (p := ⟨b, off + j, none⟩) hlt
theorem rdn_came {w : World} {x : Addr} {len cap : Nat} {zs : List Int} (hl : len ≤ cap) (hm : cap ≤ maxLen) (hz : zs.length = cap) (hcell : ∀ i, i < zs.length → w.cell? (x.add i) = some (.int .i64 (zs.getD i 0))) (hwf : ∀ n ∈ zs, (Lit.int .i64 n).wf = true) :
    RdN w (some x) len ∧ len ≤ maxLen := by
  refine ⟨fun h0 => ?_, by omega⟩
  obtain ⟨b, off, rfl, hc⟩ := ints_at hcell (by omega)
  refine ⟨b, off, rfl, World.block_lt_of_cell? w ⟨b, off, none⟩ (by simpa using hc 0 (by omega)), fun j hj => ?_⟩
  have hjz : j < zs.length := by omega
  have hb : -9223372036854775808 ≤ zs[j] ∧ zs[j] ≤ 9223372036854775807 := by simpa [Lit.wf, IntKind.min, IntKind.max, IntKind.signed, IntKind.bits] using hwf zs[j] (List.getElem_mem hjz)
  refine ⟨zs[j], ?_, hb⟩
  rw [hc j hjz]
  simp [List.getD_eq_getElem?_getD, List.getElem?_eq_getElem hjz]
theorem take_more (l : List UInt8) (p e : Nat) : l.take p ++ (l.drop p).take e = l.take (p + e) := by rw [List.take_add]

set_option maxRecDepth 100000 in
set_option maxHeartbeats 4000000 in
theorem walk {A0 : Option Addr} {n0 c0 : Nat} {x0 : List UInt8} {A1 : Option Addr} {n1 c1 : Nat} (w : World) (hg : Gl w) (hr0 : Rd w A0 n0 c0 x0) (hr1 : RdN w A1 n1) (hn1 : n1 ≤ maxLen) :
    Calls Tryd.prog 11 #[.slice A0 n0 c0, .slice A1 n1 c1] w fun e w' => e = .returned (.bool true) ∧ Below w.heap.size w w' := by
  have HG := Lib.hid hg
  have hsz := hg.size
  have R0 := Lib.hid hr0
  have R1 := Lib.hid hr1
  clear hg hr0 hr1
  unfold maxLen at hn1
  go_enter Tryd.func11, Tryd.ntmps11
  go_wp2_with (go_at_call 15; refine (begun_any HG.out).mono ?_; rintro e w1 ⟨rfl, HB⟩; have W1 := Lib.hid HB; clear HB)
  refine (short_any 200 (R0.out.below W1.out) (by omega)).mono ?_
  rintro e w' ⟨A2, n2, c2, rfl, hr2, rfl⟩
  have R2 := Lib.hid hr2
  have hc2 := hr2.cap
  clear hr2
  have hl2 : n2 ≤ 200 := by rw [← R2.out.len, List.length_take]; omega
  clear R0
  obtain ⟨l2, hl2e⟩ : ∃ l, l = x0.take 200 := ⟨_, rfl⟩
  rw [← hl2e] at R2
  clear hl2e
  have N2 := Lib.hid R2.out.len
  have RN := Lib.hid (R1.out.below W1.out)
  have hs1 := W1.out.size
  clear R1
  go_wp2_with fail
  refine (new_ex _).mono ?_
  rintro e w2 ⟨gs, rfl, hgs, hH, hX⟩
  have H2 := Lib.hid hH
  have X2 := Lib.hid hX
  have AP := Lib.hid (R2.out.apart (g := gs) hgs)
  have hs2 := hX.size
  clear hH hX
  go_wp2_with fail
  go_loopw [7, 8] (fun at_ i wr => ∃ (k p : Nat), i = .int .i64 (k : Int) ∧ at_ = .int .i64 (p : Int) ∧ k ≤ 20 ∧ p ≤ n2 ∧ Hid (Holds wr gs (l2.take p)) ∧ Hid (Below w1.heap.size w1 wr)) (fun _ i _ => 20 - (intOf i).toNat)
  case atStart => exact ⟨0, 0, rfl, rfl, by omega, by omega, H2, X2⟩
  case round =>
    clear H2 X2
    obtain ⟨k, p, rfl, rfl, hk, hp, HH, HB⟩ := hrel
    have hsr := HB.out.size
    have WR := Lib.hid (W1.out.trans (HB.out.mono hs1))
    have GR := Lib.hid (HG.out.below WR.out HG.out.size)
    have RR := Lib.hid (R2.out.below HB.out)
    have hgl := HH.out.lt
    by_cases hlt : k < n1 ∧ k < 20 ∧ p < n2
    · obtain ⟨hk1, hk2, hp2⟩ := hlt
      obtain ⟨bb, off, hA, hbl, hcell⟩ := (RN.out.below HB.out) (by omega)
      subst hA
      obtain ⟨z, hz, hz1, hz2⟩ := hcell k hk1
      clear hcell
      have d1 : decide ((k : Int) < (n1 : Int)) = true := by simp; omega
      have d1' : decide (k < n1) = true := by simp; omega
      have d2 : decide ((k : Int) < 20) = true := by simp; omega
      have d3 : decide ((p : Int) < (n2 : Int)) = true := by simp; omega
      have d3' : decide (p < n2) = true := by simp; omega
      obtain ⟨t, ht⟩ : ∃ t : Int, t = z.tmod 70 := ⟨_, rfl⟩
      have ht1 : -70 < t ∧ t < 70 := by rw [ht]; exact ⟨Int.lt_tmod_of_pos z (by omega), Int.tmod_lt_of_pos z (by omega)⟩
      have ht' : z.tmod 70 = t := ht.symm
      obtain ⟨u, hu⟩ := Int.eq_ofNat_of_zero_le (show 0 ≤ t + 70 by omega)
      obtain ⟨v, hv⟩ : ∃ v, v = u % 70 := ⟨_, rfl⟩
      have hv1 : (u : Int) % 70 = (v : Int) := by omega
      have hv2 : (u : Int).tmod 70 = (v : Int) := by rw [Int.tmod_eq_emod_of_nonneg (by omega)]; omega
      have hvl : v < 70 := by omega
      clear ht hv
      go_upto_region 11 with (fail)
      obtain ⟨e, he, hel⟩ : ∃ e : Nat, (if (v : Int) < (n2 : Int) - (p : Int) then (v : Int) else (n2 : Int) - (p : Int)) = (e : Int) ∧ p + e ≤ n2 := by
        by_cases hc : (v : Int) < (n2 : Int) - (p : Int)
        · exact ⟨v, by rw [if_pos hc], by omega⟩
        · exact ⟨n2 - p, by rw [if_neg hc]; omega, by omega⟩
      rw [he]
      clear he hv1 hv2 hu ht' hz
      have hcut := RR.out.cut (k := p) (e := p + e) (by omega) hel
      have ecut : cutA A2 c2 p = Option.map (fun x => x.add p) A2 := by unfold cutA; rw [if_neg (by omega)]
      have hap : 0 < e → ∀ ad, cutA A2 c2 p = some ad → ad.block ≠ gs := fun h0 ad had => by
        obtain ⟨a0, ha0, hab⟩ := cut_block had
        rw [← hab]
        exact AP.out (by omega) a0 ha0
      rw [show p + e - p = e by omega, ecut] at hcut
      rw [ecut] at hap
      have RC := Lib.hid hcut
      have HAP := Lib.hid hap
      have N2' := N2.out
      have hlb : (l2.take p).length + ((l2.drop p).take e).length ≤ 1099511627776 := by simp; omega
      clear N2' hcut hap ecut
      go_wp2_with fail
      refine (write_any GR.out (by omega) HH.out RC.out HAP.out hlb).mono ?_
      rintro e3 w3 ⟨rfl, Y3, O3⟩
      have H3 : Hid (Holds w3 gs (l2.take (p + e))) := by unfold Hid; rw [← take_more]; exact Y3.holds
      have B3 : Hid (Below w1.heap.size w1 w3) := below_of_only HB.out O3 hgs hsr
      clear Y3 O3 RC HAP HH
      go_wp2_with fail
      go_roundw
      case rel => exact ⟨k + 1, p + e, by go_num, by go_num, by omega, hel, H3, B3⟩
      case measure => simp [intOf]; omega
    · have hsl : ∀ W, (Instr.slice 23 (.slice A2 n2 c2) (some (.int .i64 (p : Int))) none none).run Tryd.prog W = .ok (.slice (cutA A2 c2 p) (n2 - p) (c2 - p)) W := fun W => slice_l A2 n2 c2 p hp W
      have hcut := RR.out.cut (k := p) (e := n2) hp (Nat.le_refl _)
      rw [List.take_of_length_le (by rw [List.length_drop, N2.out]; omega)] at hcut
      have hap : 0 < n2 - p → ∀ ad, cutA A2 c2 p = some ad → ad.block ≠ gs := fun h0 ad had => by
        obtain ⟨a0, ha0, hab⟩ := cut_block had
        rw [← hab]
        exact AP.out (by omega) a0 ha0
      have RC := Lib.hid hcut
      have HAP := Lib.hid hap
      have hlb : (l2.take p).length + (l2.drop p).length ≤ 1099511627776 := by have := N2.out; simp; omega
      clear hcut hap
      by_cases hk1 : k < n1
      · have d1 : decide ((k : Int) < (n1 : Int)) = true := by simp; omega
        have d1' : decide (k < n1) = true := by simp; omega
        by_cases hk2 : k < 20
        · have d2 : decide ((k : Int) < 20) = true := by simp; omega
          have d3 : decide ((p : Int) < (n2 : Int)) = false := by simp; omega
          have d3' : decide (p < n2) = false := by simp; omega
          clear hlt
          go_wp2_with fail
          clear hsl
          refine (write_any GR.out (by omega) HH.out RC.out HAP.out hlb).mono ?_
          rintro e3 w3 ⟨rfl, Y3, O3⟩
          have H3 : Hid (Holds w3 gs l2) := by unfold Hid; have := Y3.holds; rwa [List.take_append_drop] at this
          have B3 : Hid (Below w1.heap.size w1 w3) := below_of_only HB.out O3 hgs hsr
          have W3 := Lib.hid (W1.out.trans (B3.out.mono hs1))
          have G3 := Lib.hid (HG.out.below W3.out HG.out.size)
          have R3 := Lib.hid (R2.out.below B3.out)
          clear Y3 O3 RC HAP HH HB WR GR RR
          go_wp2_with fail
          refine (sum_ex G3.out H3.out (by rw [N2.out]; omega)).mono ?_
          rintro e4 w4 ⟨D, rfl, hS, hX⟩
          have HS := Lib.hid hS
          have W4 := Lib.hid (W3.out.trans (hX.mono W3.out.size))
          have R4 := Lib.hid (R3.out.below hX)
          have G4 := Lib.hid (HG.out.below W4.out HG.out.size)
          clear hS hX R3 G3 W3 B3 H3
          have X5 := Lib.hid (alloc_below w4 (.cells #[.slice A2 n2 c2] 23))
          have P5 := Lib.hid (lit_parts1' (g := w4.heap.size) w4 R4.out rfl)
          have hcall := Lib.hid (shaSum_any (c := 1) (G4.out.below X5.out G4.out.size) P5.out (by omega) (by rw [one, N2.out]; omega))
          go_wp2_with fail
          refine hcall.out.mono ?_
          rintro e5 w5 ⟨D5, rfl, hS, hX⟩
          rw [one] at hS
          obtain rfl := HS.out.uniq hS
          have hq := fun W => HS.out.self W
          have W5 := Lib.hid ((W4.out.trans (X5.out.mono W4.out.size)).trans (hX.mono (Nat.le_trans W4.out.size X5.out.size)))
          have R5 := Lib.hid ((R4.out.below X5.out).below hX)
          have G5 := Lib.hid (HG.out.below W5.out HG.out.size)
          clear hS hX hcall X5 P5 W4 R4 G4
          have X6 := Lib.hid (alloc_below w5 (.cells #[.slice A2 n2 c2] 23))
          have P6 := Lib.hid (lit_parts1' (g := w5.heap.size) w5 R5.out rfl)
          have hcall := Lib.hid (shaSum_any (c := 1) (G5.out.below X6.out G5.out.size) P6.out (by omega) (by rw [one, N2.out]; omega))
          go_wp2_with fail
          refine hcall.out.mono ?_
          rintro e6 w6 ⟨D6, rfl, hS, hX⟩
          rw [one] at hS
          obtain rfl := HS.out.uniq hS
          have W6 := Lib.hid ((W5.out.trans (X6.out.mono W5.out.size)).trans (hX.mono (Nat.le_trans W5.out.size X6.out.size)))
          have R6 := Lib.hid ((R5.out.below X6.out).below hX)
          clear hS hX hcall X6 P6 W5 R5 G5
          go_wp2_with fail
          refine (rsum_any R6.out (by omega)).mono ?_
          rintro e7 w7 ⟨D7, rfl, hS, hX⟩
          obtain rfl := HS.out.uniq hS
          have W7 := Lib.hid (W6.out.trans (hX.mono W6.out.size))
          clear hS hX
          go_wp2_with fail
          go_ret
          exact ⟨rfl, W7.out⟩
        · have d2 : decide ((k : Int) < 20) = false := by simp; omega
          clear hlt
          go_wp2_with fail
          clear hsl
          refine (write_any GR.out (by omega) HH.out RC.out HAP.out hlb).mono ?_
          rintro e3 w3 ⟨rfl, Y3, O3⟩
          have H3 : Hid (Holds w3 gs l2) := by unfold Hid; have := Y3.holds; rwa [List.take_append_drop] at this
          have B3 : Hid (Below w1.heap.size w1 w3) := below_of_only HB.out O3 hgs hsr
          have W3 := Lib.hid (W1.out.trans (B3.out.mono hs1))
          have G3 := Lib.hid (HG.out.below W3.out HG.out.size)
          have R3 := Lib.hid (R2.out.below B3.out)
          clear Y3 O3 RC HAP HH HB WR GR RR
          go_wp2_with fail
          refine (sum_ex G3.out H3.out (by rw [N2.out]; omega)).mono ?_
          rintro e4 w4 ⟨D, rfl, hS, hX⟩
          have HS := Lib.hid hS
          have W4 := Lib.hid (W3.out.trans (hX.mono W3.out.size))
          have R4 := Lib.hid (R3.out.below hX)
          have G4 := Lib.hid (HG.out.below W4.out HG.out.size)
          clear hS hX R3 G3 W3 B3 H3
          have X5 := Lib.hid (alloc_below w4 (.cells #[.slice A2 n2 c2] 23))
          have P5 := Lib.hid (lit_parts1' (g := w4.heap.size) w4 R4.out rfl)
          have hcall := Lib.hid (shaSum_any (c := 1) (G4.out.below X5.out G4.out.size) P5.out (by omega) (by rw [one, N2.out]; omega))
          go_wp2_with fail
          refine hcall.out.mono ?_
          rintro e5 w5 ⟨D5, rfl, hS, hX⟩
          rw [one] at hS
          obtain rfl := HS.out.uniq hS
          have hq := fun W => HS.out.self W
          have W5 := Lib.hid ((W4.out.trans (X5.out.mono W4.out.size)).trans (hX.mono (Nat.le_trans W4.out.size X5.out.size)))
          have R5 := Lib.hid ((R4.out.below X5.out).below hX)
          have G5 := Lib.hid (HG.out.below W5.out HG.out.size)
          clear hS hX hcall X5 P5 W4 R4 G4
          have X6 := Lib.hid (alloc_below w5 (.cells #[.slice A2 n2 c2] 23))
          have P6 := Lib.hid (lit_parts1' (g := w5.heap.size) w5 R5.out rfl)
          have hcall := Lib.hid (shaSum_any (c := 1) (G5.out.below X6.out G5.out.size) P6.out (by omega) (by rw [one, N2.out]; omega))
          go_wp2_with fail
          refine hcall.out.mono ?_
          rintro e6 w6 ⟨D6, rfl, hS, hX⟩
          rw [one] at hS
          obtain rfl := HS.out.uniq hS
          have W6 := Lib.hid ((W5.out.trans (X6.out.mono W5.out.size)).trans (hX.mono (Nat.le_trans W5.out.size X6.out.size)))
          have R6 := Lib.hid ((R5.out.below X6.out).below hX)
          clear hS hX hcall X6 P6 W5 R5 G5
          go_wp2_with fail
          refine (rsum_any R6.out (by omega)).mono ?_
          rintro e7 w7 ⟨D7, rfl, hS, hX⟩
          obtain rfl := HS.out.uniq hS
          have W7 := Lib.hid (W6.out.trans (hX.mono W6.out.size))
          clear hS hX
          go_wp2_with fail
          go_ret
          exact ⟨rfl, W7.out⟩
      · have d1 : decide ((k : Int) < (n1 : Int)) = false := by simp; omega
        have d1' : decide (k < n1) = false := by simp; omega
        clear hlt
        go_wp2_with fail
        clear hsl
        refine (write_any GR.out (by omega) HH.out RC.out HAP.out hlb).mono ?_
        rintro e3 w3 ⟨rfl, Y3, O3⟩
        have H3 : Hid (Holds w3 gs l2) := by unfold Hid; have := Y3.holds; rwa [List.take_append_drop] at this
        have B3 : Hid (Below w1.heap.size w1 w3) := below_of_only HB.out O3 hgs hsr
        have W3 := Lib.hid (W1.out.trans (B3.out.mono hs1))
        have G3 := Lib.hid (HG.out.below W3.out HG.out.size)
        have R3 := Lib.hid (R2.out.below B3.out)
        clear Y3 O3 RC HAP HH HB WR GR RR
        go_wp2_with fail
        refine (sum_ex G3.out H3.out (by rw [N2.out]; omega)).mono ?_
        rintro e4 w4 ⟨D, rfl, hS, hX⟩
        have HS := Lib.hid hS
        have W4 := Lib.hid (W3.out.trans (hX.mono W3.out.size))
        have R4 := Lib.hid (R3.out.below hX)
        have G4 := Lib.hid (HG.out.below W4.out HG.out.size)
        clear hS hX R3 G3 W3 B3 H3
        have X5 := Lib.hid (alloc_below w4 (.cells #[.slice A2 n2 c2] 23))
        have P5 := Lib.hid (lit_parts1' (g := w4.heap.size) w4 R4.out rfl)
        have hcall := Lib.hid (shaSum_any (c := 1) (G4.out.below X5.out G4.out.size) P5.out (by omega) (by rw [one, N2.out]; omega))
        go_wp2_with fail
        refine hcall.out.mono ?_
        rintro e5 w5 ⟨D5, rfl, hS, hX⟩
        rw [one] at hS
        obtain rfl := HS.out.uniq hS
        have hq := fun W => HS.out.self W
        have W5 := Lib.hid ((W4.out.trans (X5.out.mono W4.out.size)).trans (hX.mono (Nat.le_trans W4.out.size X5.out.size)))
        have R5 := Lib.hid ((R4.out.below X5.out).below hX)
        have G5 := Lib.hid (HG.out.below W5.out HG.out.size)
        clear hS hX hcall X5 P5 W4 R4 G4
        have X6 := Lib.hid (alloc_below w5 (.cells #[.slice A2 n2 c2] 23))
        have P6 := Lib.hid (lit_parts1' (g := w5.heap.size) w5 R5.out rfl)
        have hcall := Lib.hid (shaSum_any (c := 1) (G5.out.below X6.out G5.out.size) P6.out (by omega) (by rw [one, N2.out]; omega))
        go_wp2_with fail
        refine hcall.out.mono ?_
        rintro e6 w6 ⟨D6, rfl, hS, hX⟩
        rw [one] at hS
        obtain rfl := HS.out.uniq hS
        have W6 := Lib.hid ((W5.out.trans (X6.out.mono W5.out.size)).trans (hX.mono (Nat.le_trans W5.out.size X6.out.size)))
        have R6 := Lib.hid ((R5.out.below X6.out).below hX)
        clear hS hX hcall X6 P6 W5 R5 G5
        go_wp2_with fail
        refine (rsum_any R6.out (by omega)).mono ?_
        rintro e7 w7 ⟨D7, rfl, hS, hX⟩
        obtain rfl := HS.out.uniq hS
        have W7 := Lib.hid (W6.out.trans (hX.mono W6.out.size))
        clear hS hX
        go_wp2_with fail
        go_ret
        exact ⟨rfl, W7.out⟩

set_option maxRecDepth 100000 in
theorem lifted (os : Os) (started : os.Started) (H : Type) (enc : TypeId × Value → H) :
    ReturnsInHanded {} Tryd.checked os 11 .any (fun w args => (Rows.shaPartsSpec.pre enc Tryd.prog Tryd.f11 [] false w args ∧ laidMetH Tryd.prog laid2 w) ∧ sizedMet enc Tryd.prog Tryd.f11 (OpenSpec.ofChange Rows.shaPartsSpec) false w args)
      (Rows.shaPartsSpec.post enc Tryd.prog Tryd.f11 false true false false) := by
  refine returnsInHanded_of_change_and (C := Tryd.checked) (X := fun w _ => laidMetH Tryd.prog laid2 w) (fun _ _ _ hh h => h.of_heap hh) own started (by kernel_rfl) Tryd.func11
    (ChangeSpec.witness_shaped (enc := enc) (C := Tryd.checked) (os := os) (X := fun w _ => laidMetH Tryd.prog laid2 w) false (World.doorLaid Tryd.prog 400 os) #[.slice none 0 0, .slice none 0 0] 8 rfl (World.shaped_of_RefB (by kernel_rfl) (by kernel_rfl)) (by kernel_rfl) (by kernel_rfl) (by kernel_rfl) (door_met os _)) ?_
  intro W base args ds gs before hval0 hW _ _ hL _
  have hval : ∀ (j : Nat) t v, Tryd.f11.params[j]? = some t → args[j]? = some v → Value.okWide Tryd.prog W .any base t v := hval0
  have hW' := hW
  obtain ⟨p, q, hA0, hV, rfl, hfz, hnd⟩ := hW
  have hA : DataW.TrodAll enc Tryd.prog W 0 (fun _ => true) true Tryd.f11.params.toList args.toList ds p := hA0
  rw [Tryd.params11] at hA hval
  have hG := gl_of_laid hL
  obtain ⟨v0, vs0, d0, ds0, p0, q0, hargs, rfl, rfl, h0, r0⟩ := trodAll_cons hA
  obtain ⟨v1, vs1, d1, ds1, p1, q1, rfl, rfl, rfl, h1, r1⟩ := trodAll_cons r0
  obtain ⟨rfl, rfl, rfl⟩ := trodAll_nil r1
  obtain rfl : args = #[v0, v1] := by cases args; simp_all
  obtain ⟨rfl, rfl⟩ := trodVars_none hV
  obtain ⟨a0, len0, cap0, rfl⟩ := okWide_slice Tryd.underlying23 (hval 0 23 v0 rfl rfl)
  have k0 := h0
  have lt0 : ∀ x ∈ p0, x.block < W.heap.size := by obtain ⟨m, hm⟩ := k0; exact DataW.trod_lt m _ _ _ hm
  obtain ⟨l0, hr0⟩ : ∃ l, Rd W a0 len0 cap0 l := by
    obtain ⟨fuel, hf⟩ := h0
    rcases open_ints Tryd.underlying23 Tryd.underlying5 (by kernel_rfl) hf with ⟨hcs, _⟩ | ⟨x, l, c, zs, hcs, _, hl, hm, hz, _, hcell, hwz⟩
    · simp [Value.cells] at hcs
      obtain ⟨rfl, rfl, rfl⟩ := hcs
      exact rd_came (zs := []) (.inl ⟨rfl, rfl, rfl, rfl⟩)
    · simp [Value.cells] at hcs
      obtain ⟨rfl, rfl, rfl⟩ := hcs
      exact rd_came (.inr ⟨_, rfl, hl, hm, by simpa using hz, hcell, hwz⟩)
  obtain ⟨a1, len1, cap1, rfl⟩ := okWide_slice Tryd.underlying44 (hval 1 44 v1 rfl rfl)
  have k1 := h1
  have lt1 : ∀ x ∈ p1, x.block < W.heap.size := by obtain ⟨m, hm⟩ := k1; exact DataW.trod_lt m _ _ _ hm
  obtain ⟨hr1, hn1⟩ : RdN W a1 len1 ∧ len1 ≤ maxLen := by
    obtain ⟨fuel, hf⟩ := h1
    rcases open_ints Tryd.underlying44 Tryd.underlying3 (by kernel_rfl) hf with ⟨hcs, _⟩ | ⟨x, l, c, zs, hcs, _, hl, hm, hz, _, hcell, hwz⟩
    · simp [Value.cells] at hcs
      obtain ⟨rfl, rfl, rfl⟩ := hcs
      exact ⟨fun h => absurd h (by omega), by unfold maxLen; omega⟩
    · simp [Value.cells] at hcs
      obtain ⟨rfl, rfl, rfl⟩ := hcs
      exact rdn_came hl hm (by simpa using hz) hcell hwz
  clear hA0 hval0
  refine (walk W hG hr0 hr1 hn1).mono fun e W' ⟨he, bel⟩ => ?_
  subst he
  exact ⟨_, rfl, _, _, _, [], _, [], hW', trodAll_mk1 (shut_bool Tryd.underlying4 _), (trodAll_cons_mk (Below.trod laidOut (by kernel_rfl) (of_decide_eq_true (by kernel_rfl)) k0 bel lt0) (trodAll_cons_mk (Below.trod laidOut (by kernel_rfl) (of_decide_eq_true (by kernel_rfl)) k1 bel lt1) trodAll_mk0)), rfl, bel.frame _, fun h => by cases h⟩

theorem over : Rows.shaPartsRow.holds Tryd.pinned (OpenSpec.ofChange Rows.shaPartsSpec) :=
  OpenClaim.holds_of_wide 11 Tryd.f11 rfl rfl rfl rfl rfl rfl rfl ⟨rfl, rfl, rfl, rfl, rfl⟩ rfl rfl rfl rfl rfl (by kernel_rfl) Tryd.func11 (by kernel_rfl)
    (of_decide_eq_true (by kernel_rfl)) (by unfold Func.isWrapper; first | (rw [if_pos (by decide +kernel)]; kernel_rfl) | (rw [if_neg (by decide +kernel)]; exact ⟨rfl, rfl⟩))
    (fun os started H enc _ => lifted os started H enc)
end Go.Proofs.YtbepofmkfloajaaDoor.shaParts
namespace Go.Proofs.YtbepofmkfloajaaDoor
theorem shaParts_card : Rows.ShaPartsCardSaid :=
  Claim7.holds_tied_plain_at .later [] [.data, .data] true (true, "ac81aa9bd4a0dec26816718b789ea913be61d5e2860e2b9353823b24d89e6bc9") false
    shaParts.over (fun _ h => by cases h) (by kernel_rfl) (fun _ h => by cases h) shaParts_row_tie rfl ⟨rfl, rfl⟩ (by kernel_rfl) rfl
    (fun f fn hf hfn => by
      obtain rfl : f = 11 := Option.some.inj ((show Tryd.prog.funcNamed Tryd.f11.name = some 11 by kernel_rfl).symm.trans hf) |>.symm
      obtain rfl : fn = Tryd.f11 := (Option.some.inj (Tryd.func11.symm.trans hfn)).symm
      exact ⟨by kernel_rfl, fun j t ht => by
        rw [Tryd.params11] at ht
        have hm : t ∈ [23, 44] := by simpa using Array.mem_of_getElem? ht
        have hall : (([23, 44] : List TypeId).all fun u => !Tryd.prog.wantsStandIn u) = true := by kernel_rfl
        exact (show Tryd.prog.wantsStandIn t = false by simpa using List.all_eq_true.1 hall t hm)⟩)
    (by kernel_rfl)
#print axioms shaParts_card
end Go.Proofs.YtbepofmkfloajaaDoor
