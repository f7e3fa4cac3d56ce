/-
  PROVED: for all ahead, rest, n, s and u the law NumBack answers true (any number and text go to their bytes and back, whatever stands behind). CONDITIONS: none beyond the row's own.
-/
import Derived.Test.YtgjpppgcocmlhaaRows
import Derived.WalkKit
import Derived.ProofKit
import Derived.OpenShut
import Derived.ShutString
import Derived.Test.YtgjpppgcocmlhaaBegun
import Derived.Test.YtgjpppgcocmlhaaOnto
import Derived.Deep.RegionHeld3
import Derived.Deep.DeepCutAuto
import Derived.ChangeOld
import Derived.Below
namespace Go.Proofs.Ytgjpppgcocmlhaa.numBack
open Go.ChangeShapes Go.WideShapes Go.ChangeAt Go.RowKit
open Go.ChangeMaps (open_string shut_string)
set_option linter.unusedVariables false

theorem own : ownKnob Try.prog.godebug = none := by kernel_rfl
theorem laidOut : laidOutB Try.prog = true := by kernel_rfl

/-- What is known of a slice of integers that came in. -/
def IsRow (k : IntKind) (w : World) (a : Option Addr) (len cap : Nat) (zs : List Int) : Prop :=
  (a = none ∧ len = 0 ∧ cap = 0 ∧ zs = []) ∨
  ∃ x, a = some x ∧ len ≤ cap ∧ cap ≤ maxLen ∧ zs.length = cap ∧ (∀ i, i < zs.length → w.cell? (x.add i) = some (.int k (zs.getD i 0))) ∧ ∀ n ∈ zs, (Lit.int k n).wf = true

theorem ret_bool {b : Bool} (h : b = true) : Ending.returned (.bool b) = .returned (.bool true) := by rw [h]

/-- A text, whatever stands behind, is told. -/
theorem text_back (t rest : List UInt8) (ht : t.length ≤ 1000) : Num.text (Num.enc (Num.zig t.length) ++ t ++ rest) = ⟨t, (Num.enc (Num.zig t.length) ++ t).length, 0⟩ := by
  have hz := Num.zig_lt t.length (by omega) (by omega)
  unfold Num.text
  rw [List.append_assoc, Num.got_enc _ _ 0 0 (by simpa using hz) (by omega)]
  simp only [Nat.pow_zero, Nat.mul_one, Nat.zero_add, Num.zag_zig]
  unfold Num.textOf
  rw [if_neg (by simp), if_neg (by simp; omega), if_neg (by simp)]
  simp

theorem four_cells (u : Nat) (hu : u < 4294967296) : (#[.int .u8 ((u : Int) / 16777216), .int .u8 ((u : Int) / 65536 % 256), .int .u8 ((u : Int) / 256 % 256), .int .u8 ((u : Int) % 256)] : Array Value) = ((four u).map cellOf).toArray := by
  simp [four, cellOf]
  omega

theorem four_conv (u : Nat) (hu : u < 4294967296) (W : World) : (convert 22 9 (.slice (some ⟨W.heap.size, 0, none⟩) 4 4)).run Try.prog (W.alloc (.cells #[.int .u8 ((u : Int) / 16777216), .int .u8 ((u : Int) / 65536 % 256), .int .u8 ((u : Int) / 256 % 256), .int .u8 ((u : Int) % 256)] 5)) =
    .ok (.string ⟨(four u).toArray⟩) (W.alloc (.cells #[.int .u8 ((u : Int) / 16777216), .int .u8 ((u : Int) / 65536 % 256), .int .u8 ((u : Int) / 256 % 256), .int .u8 ((u : Int) % 256)] 5)) := by
  rw [four_cells u hu]
  exact conv_bytes (Rd.lit W (four u) 4 rfl (by unfold maxLen; omega))

theorem cat_bytes (x y : List UInt8) : (⟨x.toArray⟩ : ByteArray) ++ (⟨y.toArray⟩ : ByteArray) = ⟨(x ++ y).toArray⟩ := by
  apply ByteArray.ext
  simp

set_option maxRecDepth 100000 in
set_option maxHeartbeats 4000000 in
theorem walk (a0 : Option Addr) (len0 cap0 : Nat) (z0 : List Int) (a1 : Option Addr) (len1 cap1 : Nat) (z1 : List Int) (a2 : Int) (a3 : ByteArray) (a4 : Int) (w : World) (w0 : IsRow .u8 w a0 len0 cap0 z0) (w1 : IsRow .u8 w a1 len1 cap1 z1) (w2 : (Lit.int .i64 a2).wf = true) (w3 : a3.size ≤ maxLen) (w4 : (Lit.int .u32 a4).wf = true) :
    Calls Try.prog 3 #[.slice a0 len0 cap0, .slice a1 len1 cap1, .int .i64 a2, .string a3, .int .u32 a4] w fun e w' => e = .returned (.bool true) ∧ Below w.heap.size w w' := by
  obtain ⟨la, hra⟩ := rd_came w0
  obtain ⟨lr, hrr⟩ := rd_came w1
  have b2 := bounds_i64 w2
  have b4 := bounds_u32 w4
  obtain ⟨b2l, b2h⟩ := b2
  obtain ⟨u, rfl⟩ := Int.eq_ofNat_of_zero_le b4.1
  have hu : u < 4294967296 := by omega
  have HRA := Lib.hid hra
  have HRR := Lib.hid hrr
  have HS := Lib.hid w3
  clear w0 w1 w2 w3 w4 hra hrr b4
  go_enter Try.func3, Try.ntmps3
  go_wp2_with (go_at_call 9; refine (begun_any _).mono ?_; rintro e w1 ⟨rfl, HB⟩; have HB1 := Lib.hid HB; clear HB)
  refine (short_any 20 (HRA.out.below HB1.out) (by omega)).mono ?_
  rintro e w2 ⟨A0, k0, c0, rfl, hr, rfl⟩
  have h20 : (la.take 20).length ≤ 20 := List.length_take_le _ _
  generalize la.take 20 = xa at hr h20
  have HA1 := Lib.hid hr
  clear hr HRA
  go_wp2_with fail
  refine (short_any 20 (HRR.out.below HB1.out) (by omega)).mono ?_
  rintro e w2 ⟨A1, k1, c1, rfl, hr, rfl⟩
  have h21 : (lr.take 20).length ≤ 20 := List.length_take_le _ _
  generalize lr.take 20 = xr at hr h21
  have HR1 := Lib.hid hr
  clear hr HRR
  go_wp2_with fail
  refine (cut_any 100 HS.out (by omega)).mono ?_
  rintro e w2 ⟨t, rfl, ht, rfl⟩
  have hk0 : k0 ≤ 20 := by have := HA1.out.len; omega
  have hk1 : k1 ≤ 20 := by have := HR1.out.len; omega
  clear HS
  go_wp2_with (first | (at_builtin; refine onto_law rfl _ _ rfl rfl rfl HA1.out (Ow.empty _ w1.heap.size) (by simp; omega) (Nat.le_refl _) (Below.refl _ _) ?_; intro v2 w2 HO2 HB2))
  have ho2 := HO2.out
  rw [List.nil_append] at ho2
  obtain ⟨A2, c2, rfl, hr2⟩ := ho2.value
  have HA2 := Lib.hid (HA1.out.below HB2.out)
  have HR2 := Lib.hid (HR1.out.below HB2.out)
  have HW2 := Lib.hid (HB1.out.trans (HB2.out.mono HB1.out.size))
  have HR2b := Lib.hid hr2
  clear ho2 hr2 HO2 HB2 HA1 HR1 HB1
  refine (put_any a2 b2l b2h HR2b.out (by omega)).mono ?_
  rintro e w3 ⟨v3, rfl, HO, HB⟩
  have lb := Num.enc_len10 (Num.zig_lt a2 b2l b2h)
  have pb := Num.enc_pos (Num.zig a2)
  have HG := Lib.hid (fun rest => Num.got_enc rest (Num.zig a2) 0 0 (by simpa using Num.zig_lt a2 b2l b2h) (by omega))
  simp only [Nat.zero_add, Nat.pow_zero, Nat.mul_one, Num.zag_zig] at HG
  have hrp := fun W => Lib.hid (rput_any a2 W b2l b2h)
  generalize Num.enc (Num.zig a2) = xb at HO lb pb HG hrp
  have hxa := HA2.out.len
  obtain ⟨g3, c3, rfl, _, _, hr3⟩ := HO.slice (k0 + xb.length) (by rw [List.length_append, hxa]) (by omega)
  have HA3 := Lib.hid (HA2.out.below HB)
  have HR3 := Lib.hid (HR2.out.below HB)
  have HW3 := Lib.hid (HW2.out.trans (HB.mono HW2.out.size))
  have HB3 := Lib.hid hr3
  have HXA := Lib.hid hxa
  clear HO HB HA2 HR2 HW2 hr3 HR2b hxa
  go_upto_region 6 with fail
  go_cut [42] (fun s wx => s = .bool false ∧ Hid (Below w3.heap.size w3 wx))
  case first =>
    have hcb := conv_bytes HB3.out.drew
    have hca := conv_bytes HA3.out.drew
    have hcat := cat_bytes xa xb
    have hsum : ¬ 9223372036854775807 < xa.length + xb.length := by omega
    go_region_held (fun W' => (convert 22 9 (.slice (some ⟨g3, 0, none⟩) (k0 + xb.length) c3)).run Try.prog W' = .ok (.string ⟨(xa ++ xb).toArray⟩) W' ∧ (convert 22 9 (.slice A0 k0 c0)).run Try.prog W' = .ok (.string ⟨xa.toArray⟩) W') (first | exact ⟨hcb4, hca4⟩ | exact ⟨hcb, hca⟩)
      (first | (go_at_call 13; refine (hrp _).out.mono ?_; rintro e w4 ⟨v4, rfl, HO, HB⟩; obtain ⟨g4, c4, rfl, _, _, hr4⟩ := HO.slice _ rfl pb; have hc4 := conv_bytes hr4; have hcb4 := conv_bytes (HB3.out.drew.below HB); have hca4 := conv_bytes (HA3.out.drew.below HB); have HB4 := Lib.hid HB; clear HO HB hr4))
    all_goals (go_wp2_with fail; go_meet; exact ⟨rfl, ((Below.refl w3.heap.size w3).drew).trans HB4.out⟩)
  case rest =>
    obtain ⟨rfl, HC⟩ := hcut
    have HA4 := Lib.hid (HA3.out.below HC.out)
    have HR4 := Lib.hid (HR3.out.below HC.out)
    have HB4 := Lib.hid (HB3.out.below HC.out)
    have HW4 := Lib.hid (HW3.out.trans (HC.out.mono HW3.out.size))
    have hcap3 := HB3.out.cap
    clear HA3 HR3 HB3 HW3 HC hrp
    have hsl := slice_l (some ⟨g3, 0, none⟩) (k0 + xb.length) c3 k0 (by omega) wc
    have e1 : k0 + xb.length - k0 = xb.length := by omega
    have hcut4 := HB4.out.cut (k := k0) (e := k0 + xb.length) (by omega) (by omega)
    rw [e1] at hsl hcut4
    have e2 : ((xa ++ xb).drop k0).take xb.length = xb := by
      rw [← HXA.out, List.drop_left, List.take_length]
    rw [e2] at hcut4
    have HC4 := Lib.hid hcut4
    clear hcut4 e1 e2
    go_wp2_with (first | (at_builtin; refine onto_law rfl _ (.tmp 47) rfl rfl rfl HC4.out (Ow.empty _ wc.heap.size) (by simp; omega) (Nat.le_refl _) (Below.refl _ _) ?_; intro v5 w5 HO5 HB5) | (at_builtin; refine onto_law rfl (.tmp 48) (.tmp 49) rfl rfl rfl (HR4.out.below HB5.out) HO5.out (by simp; omega) HB5.out.size HB5.out ?_; intro v6 w6 HO6 HB6))
    have ho6 := HO6.out
    rw [List.nil_append] at ho6
    obtain ⟨g6, c6, rfl, _, _, hr6⟩ := ho6.slice (xb.length + k1) (by rw [List.length_append, HR4.out.len]) (by omega)
    have HG6 := Lib.hid hr6
    have HA6 := Lib.hid (HA4.out.below HB6.out)
    have HR6 := Lib.hid (HR4.out.below HB6.out)
    have HW6 := Lib.hid (HW4.out.trans (HB6.out.mono HW4.out.size))
    clear ho6 hr6 HO6 HB6 HO5 HB5 HA4 HR4 HB4 HW4 HC4 hsl
    refine (get_any HG6.out).mono ?_
    rintro e w7 ⟨rfl, rfl⟩
    rw [HG.out]
    clear HG HG6
    go_wp2_with (first | (at_builtin; refine onto_law rfl _ (.tmp 55) rfl rfl rfl HA6.out (Ow.empty _ w6.heap.size) (by simp; omega) (Nat.le_refl _) (Below.refl _ _) ?_; intro v7 w7 HO7 HB7))
    have ho7 := HO7.out
    rw [List.nil_append] at ho7
    obtain ⟨A7, c7, rfl, hr7⟩ := ho7.value
    have HA7 := Lib.hid (HA6.out.below HB7.out)
    have HR7 := Lib.hid (HR6.out.below HB7.out)
    have HW7 := Lib.hid (HW6.out.trans (HB7.out.mono HW6.out.size))
    have HV7 := Lib.hid hr7
    clear ho7 hr7 HO7 HB7 HA6 HR6 HW6
    refine (ptext_any t HV7.out (by omega) (by omega)).mono ?_
    rintro e w8 ⟨v8, rfl, HO, HB⟩
    have HT := Lib.hid (fun rest => text_back t.data.toList rest (by rw [size_data]; omega))
    rw [size_data] at HT
    have hrq := fun W => Lib.hid (rptext_any t W (by omega))
    have pc : 0 < (Num.enc (Num.zig t.size) ++ t.data.toList).length := by
      have := Num.enc_pos (Num.zig t.size)
      rw [List.length_append]
      omega
    have lc : (Num.enc (Num.zig t.size) ++ t.data.toList).length ≤ 110 := by
      have := Num.enc_len10 (Num.zig_lt t.size (by omega) (by omega))
      rw [List.length_append, size_data]
      omega
    rw [List.append_assoc] at HO
    generalize Num.enc (Num.zig t.size) ++ t.data.toList = xc at HO HT hrq pc lc
    obtain ⟨g8, c8, rfl, _, _, hr8⟩ := HO.slice (k0 + xc.length) (by rw [List.length_append, HXA.out]) (by omega)
    have HA8 := Lib.hid (HA7.out.below HB)
    have HR8 := Lib.hid (HR7.out.below HB)
    have HW8 := Lib.hid (HW7.out.trans (HB.mono HW7.out.size))
    have hcap8 := hr8.cap
    have HC8 := Lib.hid hr8
    clear HO HB HA7 HR7 HW7 hr8 HV7
    have hsl := slice_l (some ⟨g8, 0, none⟩) (k0 + xc.length) c8 k0 (by omega) w8
    have e1 : k0 + xc.length - k0 = xc.length := by omega
    have hcut8 := HC8.out.cut (k := k0) (e := k0 + xc.length) (by omega) (by omega)
    rw [e1] at hsl hcut8
    have e2 : ((xa ++ xc).drop k0).take xc.length = xc := by
      rw [← HXA.out, List.drop_left, List.take_length]
    rw [e2] at hcut8
    have HD8 := Lib.hid hcut8
    clear hcut8 e1 e2
    go_wp2_with (first | (at_builtin; refine onto_law rfl _ (.tmp 63) rfl rfl rfl HD8.out (Ow.empty _ w8.heap.size) (by simp; omega) (Nat.le_refl _) (Below.refl _ _) ?_; intro v9 w9 HO9 HB9) | (at_builtin; refine onto_law rfl (.tmp 64) (.tmp 65) rfl rfl rfl (HR8.out.below HB9.out) HO9.out (by simp; omega) HB9.out.size HB9.out ?_; intro v10 w10 HO10 HB10))
    have ho10 := HO10.out
    rw [List.nil_append] at ho10
    obtain ⟨g10, c10, rfl, _, _, hr10⟩ := ho10.slice (xc.length + k1) (by rw [List.length_append, HR8.out.len]) (by omega)
    have HG10 := Lib.hid hr10
    have HA10 := Lib.hid (HA8.out.below HB10.out)
    have HC10 := Lib.hid (HC8.out.below HB10.out)
    have HW10 := Lib.hid (HW8.out.trans (HB10.out.mono HW8.out.size))
    clear ho10 hr10 HO10 HB10 HO9 HB9 HA8 HR8 HC8 HW8 HD8 hsl
    refine (gtext_any HG10.out).mono ?_
    rintro e w11 ⟨rfl, rfl⟩
    rw [HT.out]
    have ht2 : (⟨(⟨t.data.toList, xc.length, 0⟩ : Num.Txt).txt.toArray⟩ : ByteArray) = t := by simp
    rw [ht2]
    clear HT HG10 ht2
    have hf := four_conv u hu
    go_upto_region 12 with fail
    clear hf
    have HBa := (Below.refl w10.heap.size w10).alloc (Nat.le_refl _) (.cells #[.int .u8 ((u : Int) / 16777216), .int .u8 ((u : Int) / 65536 % 256), .int .u8 ((u : Int) / 256 % 256), .int .u8 ((u : Int) % 256)] 5)
    generalize w10.alloc (.cells #[.int .u8 ((u : Int) / 16777216), .int .u8 ((u : Int) / 65536 % 256), .int .u8 ((u : Int) / 256 % 256), .int .u8 ((u : Int) % 256)] 5) = W at HBa ⊢
    have HAW := Lib.hid (HA10.out.below HBa)
    have HCW := Lib.hid (HC10.out.below HBa)
    have HWW := Lib.hid (HW10.out.trans (HBa.mono HW10.out.size))
    clear HBa HA10 HC10 HW10 HXA
    have hcc := conv_bytes HCW.out.drew
    have hca := conv_bytes HAW.out.drew
    have hcat := cat_bytes xa xc
    have hw1 : IntKind.i64.wrap ((k0 : Int) + (xb.length : Int) - (k0 : Int)) = (xb.length : Int) := by rw [IntKind.wrap_i64]; omega
    have hw2 : IntKind.i64.wrap ((k0 : Int) + (xc.length : Int) - (k0 : Int)) = (xc.length : Int) := by rw [IntKind.wrap_i64]; omega
    have hw3 : IntKind.i64.wrap (xb.length : Int) = (xb.length : Int) := by rw [IntKind.wrap_i64]; omega
    have hw4 : IntKind.i64.wrap (xc.length : Int) = (xc.length : Int) := by rw [IntKind.wrap_i64]; omega
    have hsum : ¬ 9223372036854775807 < xa.length + xc.length := by omega
    go_region_held (fun W' => (convert 22 9 (.slice (some ⟨g8, 0, none⟩) (k0 + xc.length) c8)).run Try.prog W' = .ok (.string ⟨(xa ++ xc).toArray⟩) W' ∧ (convert 22 9 (.slice A0 k0 c0)).run Try.prog W' = .ok (.string ⟨xa.toArray⟩) W') (first | exact ⟨hccB, hcaB⟩ | exact ⟨hccA, hcaA⟩ | exact ⟨hcc, hca⟩)
      (first | (go_at_call 17; refine (hrq _).out.mono ?_; rintro e wA ⟨vA, rfl, HO, HB⟩; obtain ⟨gA, cA, rfl, _, _, hrA⟩ := HO.slice _ rfl pc; have hcA := conv_bytes hrA; have hccA := conv_bytes (HCW.out.drew.below HB); have hcaA := conv_bytes (HAW.out.drew.below HB); have HBA := Lib.hid HB; clear HO HB hrA) | (go_at_call 18; refine (four_any u _ hu).mono ?_; rintro e wB ⟨vB, rfl, HO, HB⟩; obtain ⟨gB, cB, rfl, _, _, hrB⟩ := HO.slice 4 rfl (by omega); have hcB := conv_bytes hrB; have hccB := conv_bytes ((HCW.out.drew.below HBA.out).below HB); have hcaB := conv_bytes ((HAW.out.drew.below HBA.out).below HB); have HBB := Lib.hid HB; clear HO HB hrB))
    go_wp2_with fail
    go_ret
    exact ⟨rfl, HWW.out.trans (((Below.refl W.heap.size W).drew.trans (HBA.out.trans (HBB.out.mono HBA.out.size))).mono HWW.out.size)⟩

set_option maxRecDepth 100000 in
theorem lifted (os : Os) (started : os.Started) (H : Type) (enc : TypeId × Value → H) :
    ReturnsInHanded {} Try.checked os 3 .any (Rows.numBackSpec.pre6 enc Try.prog Try.f3 Rows.numBackRow.domain false) (Rows.numBackSpec.post enc Try.prog Try.f3 false true false false) := by
  refine returnsInHanded_of_change (C := Try.checked) own started (by kernel_rfl) Try.func3
    (ChangeSpec.witness6 (enc := enc) (C := Try.checked) false ⟨#[], #[.slice none 0 0, .slice none 0 0, .int .i64 0, .string ByteArray.empty, .int .u32 0], []⟩ 8 (by kernel_rfl) (by kernel_rfl) (by kernel_rfl) (by kernel_rfl)) ?_
  intro W base args ds gs before hval0 hW hcnd _
  have hval : ∀ (j : Nat) t v, Try.f3.params[j]? = some t → args[j]? = some v → Value.okWide Try.prog W .any base t v := hval0
  have hW' := hW
  obtain ⟨p, q, hA0, hV, rfl, hfz, hnd⟩ := hW
  have hA : DataW.TrodAll enc Try.prog W 0 (fun _ => true) true Try.f3.params.toList args.toList ds p := hA0
  rw [Try.params3] at hA hval
  obtain ⟨v0, vs0, d0, ds0, p0, q0, hargs, rfl, rfl, h0, r0⟩ := trodAll_cons hA
  obtain ⟨v1, vs1, d1, ds1, p1, q1, rfl, rfl, rfl, h1, r1⟩ := trodAll_cons r0
  obtain ⟨v2, vs2, d2, ds2, p2, q2, rfl, rfl, rfl, h2, r2⟩ := trodAll_cons r1
  obtain ⟨v3, vs3, d3, ds3, p3, q3, rfl, rfl, rfl, h3, r3⟩ := trodAll_cons r2
  obtain ⟨v4, vs4, d4, ds4, p4, q4, rfl, rfl, rfl, h4, r4⟩ := trodAll_cons r3
  obtain ⟨rfl, rfl, rfl⟩ := trodAll_nil r4
  obtain rfl : args = #[v0, v1, v2, v3, v4] := by cases args; simp_all
  obtain ⟨rfl, rfl⟩ := trodVars_none hV
  obtain ⟨a0, len0, cap0, rfl⟩ := okWide_slice Try.underlying22 (hval 0 22 v0 rfl rfl)
  have k0 := h0
  have lt0 : ∀ x ∈ p0, x.block < W.heap.size := by obtain ⟨m, hm⟩ := k0; exact DataW.trod_lt m _ _ _ hm
  obtain ⟨z0, w0⟩ : ∃ zs, IsRow .u8 W a0 len0 cap0 zs := by
    obtain ⟨fuel, hf⟩ := h0
    rcases open_ints Try.underlying22 Try.underlying5 (by kernel_rfl) hf with ⟨hcs, _⟩ | ⟨x, l, c, zs, hcs, _, hl, hm, hz, _, hcell, hwz⟩
    · simp [Value.cells] at hcs
      obtain ⟨rfl, rfl, rfl⟩ := hcs
      exact ⟨[], .inl ⟨rfl, rfl, rfl, rfl⟩⟩
    · simp [Value.cells] at hcs
      obtain ⟨rfl, rfl, rfl⟩ := hcs
      exact ⟨zs, .inr ⟨_, rfl, hl, hm, by simpa using hz, hcell, hwz⟩⟩
  obtain ⟨a1, len1, cap1, rfl⟩ := okWide_slice Try.underlying22 (hval 1 22 v1 rfl rfl)
  have k1 := h1
  have lt1 : ∀ x ∈ p1, x.block < W.heap.size := by obtain ⟨m, hm⟩ := k1; exact DataW.trod_lt m _ _ _ hm
  obtain ⟨z1, w1⟩ : ∃ zs, IsRow .u8 W a1 len1 cap1 zs := by
    obtain ⟨fuel, hf⟩ := h1
    rcases open_ints Try.underlying22 Try.underlying5 (by kernel_rfl) hf with ⟨hcs, _⟩ | ⟨x, l, c, zs, hcs, _, hl, hm, hz, _, hcell, hwz⟩
    · simp [Value.cells] at hcs
      obtain ⟨rfl, rfl, rfl⟩ := hcs
      exact ⟨[], .inl ⟨rfl, rfl, rfl, rfl⟩⟩
    · simp [Value.cells] at hcs
      obtain ⟨rfl, rfl, rfl⟩ := hcs
      exact ⟨zs, .inr ⟨_, rfl, hl, hm, by simpa using hz, hcell, hwz⟩⟩
  obtain ⟨a2, rfl, rfl, rfl, w2⟩ := open_int Try.underlying2 (hval 2 2 v2 rfl rfl) h2
  obtain ⟨a3, rfl, rfl, rfl, w3⟩ := open_string Try.underlying9 (hval 3 9 v3 rfl rfl) h3
  obtain ⟨a4, rfl, rfl, rfl, w4⟩ := open_int Try.underlying23 (hval 4 23 v4 rfl rfl) h4
  clear hA0 hval0
  refine (walk a0 len0 cap0 z0 a1 len1 cap1 z1 a2 a3 a4 W w0 w1 w2 w3 w4).mono fun e W' ⟨he, bel⟩ => ?_
  subst he
  exact ⟨_, rfl, _, _, _, [], _, [], hW', trodAll_mk1 (shut_bool Try.underlying4 _), (trodAll_cons_mk (Below.trod laidOut (by kernel_rfl) (of_decide_eq_true (by kernel_rfl)) k0 bel lt0) (trodAll_cons_mk (Below.trod laidOut (by kernel_rfl) (of_decide_eq_true (by kernel_rfl)) k1 bel lt1) (trodAll_cons_mk (shut_int Try.underlying2 w2) (trodAll_cons_mk (shut_string Try.underlying9 w3) (trodAll_cons_mk (shut_int Try.underlying23 w4) trodAll_mk0))))), rfl, bel.frame _, fun h => by cases h⟩

theorem over : Rows.numBackRow.holds Try.pinned (OpenSpec.ofChange Rows.numBackSpec) :=
  OpenClaim.holds_of_wide 3 Try.f3 rfl rfl rfl rfl rfl rfl rfl ⟨rfl, rfl, rfl, rfl, rfl⟩ rfl rfl rfl rfl rfl (by kernel_rfl) Try.func3 (by kernel_rfl)
    (of_decide_eq_true (by kernel_rfl)) (by unfold Func.isWrapper; first | (rw [if_pos (by decide +kernel)]; kernel_rfl) | (rw [if_neg (by decide +kernel)]; exact ⟨rfl, rfl⟩))
    (fun os started H enc _ => lifted os started H enc)

end Go.Proofs.Ytgjpppgcocmlhaa.numBack
namespace Go.Proofs.Ytgjpppgcocmlhaa
theorem numBack_holds : Rows.NumBackSaid := numBack.over
#print axioms numBack_holds
end Go.Proofs.Ytgjpppgcocmlhaa
