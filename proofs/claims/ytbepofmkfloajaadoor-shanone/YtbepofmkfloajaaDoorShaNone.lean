/-
  PROVED: the closed law ShaNone answers true (a state that is nil takes nothing in and gives the zero sum and no copy; the sum of nothing is the standard's). CONDITIONS: none beyond the card's own.
-/
import Derived.Test.YtbepofmkfloajaaDoorEq
import Derived.Test.YtbepofmkfloajaaDoorTie
import Derived.Test.YtbepofmkfloajaaDoorCards
import Derived.OpenShut
import Derived.Stop.Joined
import Derived.SevenTiedAt
namespace Go.Proofs.YtbepofmkfloajaaDoor.shaNone
open Go.ChangeShapes Go.WideShapes Go.ChangeAt Go.RowKit
set_option linter.unusedVariables false
set_option linter.unusedSimpArgs false

theorem nil00 : (Sha.sum []).getD 0 0 = 0xe3 ∧ (Sha.sum []).getD 1 0 = 0xb0 ∧ (Sha.sum []).getD 31 0 = 0x55 := by
  have h := Sha.sum_nil
  rw [Prod.mk.injEq, Prod.mk.injEq] at h
  exact h
theorem nil0 : ((Sha.sum []).getD 0 0).toNat = 227 := by rw [nil00.1]; rfl
theorem nil1 : ((Sha.sum []).getD 1 0).toNat = 176 := by rw [nil00.2.1]; rfl
theorem nil31 : ((Sha.sum []).getD 31 0).toNat = 85 := by rw [nil00.2.2]; rfl

set_option maxRecDepth 100000 in
set_option maxHeartbeats 400000 in
theorem write_none {A : Option Addr} {n c : Nat} (w : World) : Calls Tryd.prog 18 #[.pointer none, .slice A n c] w fun e w' => e = .returned (.tuple #[]) ∧ w = w' := by
  go_enter Tryd.func18, Tryd.ntmps18
  go_wp2_with fail
  refine bodyPost_ret (results_none rfl _ _ _) rfl ?_
  exact ⟨rfl, rfl⟩
set_option maxRecDepth 100000 in
set_option maxHeartbeats 400000 in
theorem copy_none (w : World) : Calls Tryd.prog 21 #[.pointer none] w fun e w' => e = .returned (.pointer none) ∧ w = w' := by
  go_enter Tryd.func21, Tryd.ntmps21
  go_wp2_with fail
  go_ret
  exact ⟨rfl, rfl⟩
def z32 : List UInt8 := List.replicate 32 0
set_option maxRecDepth 100000 in
set_option maxHeartbeats 1000000 in
theorem sum_none (w : World) : Calls Tryd.prog 19 #[.pointer none] w fun e w' => ∃ D, e = .returned (.agg D.toArray) ∧ D = z32.map cellOf ∧ Below w.heap.size w w' := by
  obtain ⟨D, hD⟩ : ∃ D, D = z32.map cellOf := ⟨_, rfl⟩
  have HBu : Hid (Tryd.prog.built 30 [] = some D.toArray) := by unfold Hid; rw [hD]; kernel_rfl
  have HI : Hid ((Tryd.prog.info? 30).map (·.size) = some D.length) := by unfold Hid; rw [hD]; kernel_rfl
  have HL : Hid ((List.replicate 32 (Value.int .u8 0)).length = D.length) := by unfold Hid; rw [hD]; rfl
  have H1 : Hid (∀ v ∈ D, v.oneCell' = true) := by unfold Hid; rw [hD]; exact cells_u8 _
  have HD := Lib.hid hD
  clear hD
  go_enter Tryd.func19, Tryd.ntmps19
  go_upto_region 2 with (fail)
  refine wp_region_lit ?_
  refine build_law rfl 30 #[] rfl D (by simpa using HBu.out) ?_
  simp only [Act.put, List.setIfInBounds_toArray, List.set_cons_zero, List.set_cons_succ]
  refine storeGen_law rfl 30 (.tmp 2) (.tmp 9) rfl w.heap.size rfl D rfl 30 (List.replicate 32 (.int .u8 0)) HI.out HL.out H1.out w.heap.size w ?_ ?_ (Nat.le_refl _) ?_
  · exact Blk.at_new _ _ 30 _ _ (by rfl) rfl
  · exact (Below.refl _ _).alloc (Nat.le_refl _) _
  intro w1 B1 W1
  simp only [Act.put]
  go_wp2_with fail
  exact bodyPost_ret (results_cell_row rfl _ _ w.heap.size 30 D.toArray (0, 0) _ rfl B1.out Tryd.underlying30 rfl (by rw [HI.out]; simp)) rfl ⟨D, rfl, HD.out, W1.out⟩

set_option maxRecDepth 100000 in
set_option maxHeartbeats 2000000 in
theorem walk (w : World) (hg : Gl w) : Calls Tryd.prog 6 #[] w fun e w' => e = .returned (.bool true) ∧ Below w.heap.size w w' := by
  have HG := Lib.hid hg
  have hsz := hg.size
  clear hg
  go_enter Tryd.func6, Tryd.ntmps6
  go_wp2_with fail
  refine (write_none _).mono ?_
  rintro e w1 ⟨rfl, rfl⟩
  have X1 := Lib.hid (alloc_below w (.cells #[.int .u8 1] 5))
  have HG1 := Lib.hid (HG.out.below X1.out HG.out.size)
  generalize w.alloc (.cells #[.int .u8 1] 5) = w1 at *
  go_wp2_with fail
  have HP : Hid (RdP w1 none 0 []) := ⟨rfl, fun j hj => absurd hj (Nat.not_lt_zero _)⟩
  refine (shaSum_any HG1.out HP.out (Nat.zero_le _) (by simp)).mono ?_
  rintro e w3 ⟨D, rfl, hS, hX⟩
  have HS : Hid (Summed [] D) := hS
  have HI := Lib.hid hS.info
  have HL : Hid ((List.replicate 32 (Value.int .u8 0)).length = D.length) := by unfold Hid; rw [hS.len]; rfl
  have H1 := Lib.hid hS.one
  have W3 : Hid (Below w.heap.size w w3) := X1.out.trans (hX.mono X1.out.size)
  clear hS hX HG1 X1
  go_upto_region 4 with (first
    | ((with_reducible refine storeGen_law rfl 30 (.tmp 2) (.tmp 6) rfl w3.heap.size rfl D rfl 30 (List.replicate 32 (.int .u8 0)) HI.out HL.out H1.out w3.heap.size w3 ?_ ?_ (Nat.le_refl _) ?_)
       · exact Blk.at_new _ _ 30 _ _ (by rfl) rfl
       · exact (Below.refl _ _).alloc (Nat.le_refl _) _
       intro w4 B4 X4))
  have W4 : Hid (Below w.heap.size w w4) := W3.out.trans (X4.out.mono W3.out.size)
  have hb4 := B4.out.lt
  obtain ⟨gh, hgh⟩ : ∃ gh, gh = w3.heap.size := ⟨_, rfl⟩
  rw [← hgh] at B4 hb4
  rw [← hgh]
  have HG4 := Lib.hid (HG.out.below W4.out HG.out.size)
  clear HI HL H1 W3 X4 hgh
  go_wp2_with fail
  refine (begun_any HG4.out).mono ?_
  rintro e w5 ⟨rfl, hX⟩
  have B5 : Hid (Blk w5 gh 30 D) := B4.out.below hX hb4
  have W5 : Hid (Below w.heap.size w w5) := W4.out.trans (hX.mono W4.out.size)
  have hb5 := B5.out.lt
  clear hX B4 W4 hb4 HG4
  go_wp2_with fail
  refine (sum_none _).mono ?_
  rintro e w6 ⟨Z, rfl, hZ, hX⟩
  have B6 : Hid (Blk w6 gh 30 D) := B5.out.below hX hb5
  have W6 : Hid (Below w.heap.size w w6) := W5.out.trans (hX.mono W5.out.size)
  have hq := fun W => equal30 z32 z32 (by rfl) (by rfl) W
  rw [← hZ, sameB_self] at hq
  have hZ2 : Z.toArray = #[.int .u8 0, .int .u8 0, .int .u8 0, .int .u8 0, .int .u8 0, .int .u8 0, .int .u8 0, .int .u8 0, .int .u8 0, .int .u8 0, .int .u8 0, .int .u8 0, .int .u8 0, .int .u8 0, .int .u8 0, .int .u8 0, .int .u8 0, .int .u8 0, .int .u8 0, .int .u8 0, .int .u8 0, .int .u8 0, .int .u8 0, .int .u8 0, .int .u8 0, .int .u8 0, .int .u8 0, .int .u8 0, .int .u8 0, .int .u8 0, .int .u8 0, .int .u8 0] := by rw [hZ]; rfl
  rw [hZ2] at hq
  rw [hZ2]
  have c0 : w6.cell? ⟨gh, 0, none⟩ = some (.int .u8 227) := by rw [B6.out.cell, HS.out.at_ 0 (by omega), nil0]; rfl
  have c1 : w6.cell? ⟨gh, 1, none⟩ = some (.int .u8 176) := by rw [B6.out.cell, HS.out.at_ 1 (by omega), nil1]; rfl
  have c2 : w6.cell? ⟨gh, 31, none⟩ = some (.int .u8 85) := by rw [B6.out.cell, HS.out.at_ 31 (by omega), nil31]; rfl
  clear hX hZ hZ2 B5 W5 hb5 B6
  go_wp2_with (go_at_call 21; refine (copy_none _).mono ?_; rintro e w' ⟨rfl, rfl⟩)
  go_ret
  exact ⟨rfl, W6.out⟩

set_option maxRecDepth 100000 in
theorem lifted (os : Os) (started : os.Started) (H : Type) (enc : TypeId × Value → H) :
    ReturnsInHanded {} Tryd.checked os 6 .any (fun w args => (Rows.shaNoneSpec.pre enc Tryd.prog Tryd.f6 [] false w args ∧ laidMetH Tryd.prog laid2 w) ∧ sizedMet enc Tryd.prog Tryd.f6 (OpenSpec.ofChange Rows.shaNoneSpec) false w args)
      (Rows.shaNoneSpec.post enc Tryd.prog Tryd.f6 false true false false) := by
  refine returnsInHanded_of_change_and (C := Tryd.checked) (X := fun w _ => laidMetH Tryd.prog laid2 w) (fun _ _ _ hh h => h.of_heap hh) own started (by kernel_rfl) Tryd.func6
    (ChangeSpec.witness_shaped (enc := enc) (C := Tryd.checked) (os := os) (X := fun w _ => laidMetH Tryd.prog laid2 w) false (World.doorLaid Tryd.prog 400 os) #[] 8 rfl (World.shaped_of_RefB (by kernel_rfl) (by kernel_rfl)) (by kernel_rfl) (by kernel_rfl) (by kernel_rfl) (door_met os _)) ?_
  intro W base args ds gs before hval0 hW _ _ hL _
  have hval : ∀ (j : Nat) t v, Tryd.f6.params[j]? = some t → args[j]? = some v → Value.okWide Tryd.prog W .any base t v := hval0
  have hW' := hW
  obtain ⟨p, q, hA0, hV, rfl, hfz, hnd⟩ := hW
  have hA : DataW.TrodAll enc Tryd.prog W 0 (fun _ => true) true Tryd.f6.params.toList args.toList ds p := hA0
  rw [Tryd.params6] at hA hval
  have hG := gl_of_laid hL
  obtain ⟨rfl, rfl, rfl⟩ := trodAll_none hA
  obtain ⟨rfl, rfl⟩ := trodVars_none hV
  clear hA0 hval0
  simp only [List.append_nil] at hW'
  refine (walk W hG).mono fun e W' ⟨he, bel⟩ => ?_
  subst he
  exact ⟨_, rfl, _, _, _, [], [], [], hW', trodAll_mk1 (shut_bool Tryd.underlying4 _), rfl, rfl, bel.frame _, fun h => by cases h⟩

theorem over : Rows.shaNoneRow.holds Tryd.pinned (OpenSpec.ofChange Rows.shaNoneSpec) :=
  OpenClaim.holds_of_wide 6 Tryd.f6 rfl rfl rfl rfl rfl rfl rfl ⟨rfl, rfl, rfl, rfl, rfl⟩ rfl rfl rfl rfl rfl (by kernel_rfl) Tryd.func6 (by kernel_rfl)
    (of_decide_eq_true (by kernel_rfl)) (by unfold Func.isWrapper; first | (rw [if_pos (by decide +kernel)]; kernel_rfl) | (rw [if_neg (by decide +kernel)]; exact ⟨rfl, rfl⟩))
    (fun os started H enc _ => lifted os started H enc)
end Go.Proofs.YtbepofmkfloajaaDoor.shaNone
namespace Go.Proofs.YtbepofmkfloajaaDoor
theorem shaNone_card : Rows.ShaNoneCardSaid :=
  Claim7.holds_tied_plain_at .later [] [.data, .data] true (true, "ac81aa9bd4a0dec26816718b789ea913be61d5e2860e2b9353823b24d89e6bc9") false
    shaNone.over (fun _ h => by cases h) (by kernel_rfl) (fun _ h => by cases h) shaNone_row_tie rfl ⟨rfl, rfl⟩ (by kernel_rfl) rfl
    (fun f fn hf hfn => by
      obtain rfl : f = 6 := Option.some.inj ((show Tryd.prog.funcNamed Tryd.f6.name = some 6 by kernel_rfl).symm.trans hf) |>.symm
      obtain rfl : fn = Tryd.f6 := (Option.some.inj (Tryd.func6.symm.trans hfn)).symm
      exact ⟨by kernel_rfl, fun j t ht => by
        rw [Tryd.params6] at ht
        have hm : t ∈ ([] : List TypeId) := by simpa using Array.mem_of_getElem? ht
        have hall : ((([] : List TypeId) : List TypeId).all fun u => !Tryd.prog.wantsStandIn u) = true := by kernel_rfl
        exact (show Tryd.prog.wantsStandIn t = false by simpa using List.all_eq_true.1 hall t hm)⟩)
    (by kernel_rfl)
#print axioms shaNone_card
end Go.Proofs.YtbepofmkfloajaaDoor
