/- The contract of the document's Expand. -/
import Derived.Test.YtbepofmkfloajaaDoorRefMac
namespace Go.Proofs.YtbepofmkfloajaaDoor
set_option linter.unusedVariables false
set_option linter.unusedSimpArgs false
open Go.RowKit

set_option maxRecDepth 100000 in
set_option maxHeartbeats 1000000 in
theorem rexpand_none {w : World} {A A' : Option Addr} {n c n' c' : Nat} (m : Int) (h : m < 1 ∨ 8160 < m) :
    Calls Tryd.prog 28 #[.slice A n c, .slice A' n' c', .int .i64 m] w fun e w' => e = .returned (.slice none 0 0) ∧ w = w' := by
  by_cases h1 : m < 1
  · go_enter Tryd.func28, Tryd.ntmps28
    go_wp2_with fail
    go_ret
    exact ⟨rfl, rfl⟩
  · have h2 : 8160 < m := by omega
    have h1b : decide (m < 1) = false := by simpa using h1
    go_enter Tryd.func28, Tryd.ntmps28
    go_wp2_with fail
    go_ret
    exact ⟨rfl, rfl⟩

theorem Ow.block_ne {w : World} {B : Nat} {v : Value} {l : List UInt8} (h : Ow w B v l) {q : Nat} (hq : w.heap.size ≤ q) : some q ≠ v.ownBlock := fun e => by
  have := (h.lt_ q e.symm).2
  omega
/-- What is read in a new block is kept by an append to a row that is older. -/
theorem Rd.apart_row {w w' : World} {A : Option Addr} {n c : Nat} {l : List UInt8} {row : Option Nat} (h : Rd w A n c l) (hg : w.grownBy w' row) (hne : 0 < n → ∀ ad, A = some ad → some ad.block ≠ row) : Rd w' A n c l :=
  h.keep hg.size (fun b off e h0 hb => hg.block b hb (hne h0 _ e))

theorem Rd.front {w : World} {A : Option Addr} {n c e : Nat} {l : List UInt8} (h : Rd w A n c l) (he : e ≤ n) : Rd w A e c (l.take e) :=
  ⟨by rw [List.length_take, h.len]; omega, Nat.le_trans he h.cap, h.max, fun h0 => by
    obtain ⟨b, off, e1, hlt, hc⟩ := h.at_ (by omega)
    refine ⟨b, off, e1, hlt, fun j hj => ?_⟩
    rw [hc j (by omega)]
    simp [List.getD_eq_getElem?_getD, List.getElem?_take, hj]⟩

set_option maxRecDepth 100000 in
set_option maxHeartbeats 4000000 in
theorem rexpand_any {w : World} {A A' : Option Addr} {nk ck ni ci : Nat} {key info : List UInt8} (hr : Rd w A nk ck key) (hn : nk ≤ 1000000) (hi : Rd w A' ni ci info) (hni : ni ≤ 100000) (n : Nat) (h1 : 1 ≤ n) (h2 : n ≤ 8160) :
    Calls Tryd.prog 28 #[.slice A nk ck, .slice A' ni ci, .int .i64 (n : Int)] w fun e w' => ∃ A2 c2, e = .returned (.slice A2 n c2) ∧ Rd w' A2 n c2 (Sha.expand key info n) ∧ Below w.heap.size w w' := by
  have HR := Lib.hid hr
  have HI := Lib.hid hi
  have HIL := Lib.hid hi.len
  clear hr hi
  have b1 : decide ((n : Int) < 1) = false := by simp; omega
  have b2 : decide ((8160 : Int) < (n : Int)) = false := by simp; omega
  go_enter Tryd.func28, Tryd.ntmps28
  go_wp2_with fail
  clear b1 b2
  go_loopw [7, 8, 9] (fun vo vl i wr => ∃ (k : Nat) (Ao : Option Addr) (co : Nat) (Al : Option Addr) (ql cl m : Nat), 32 * k < n + 32 ∧ m = 32 * k ∧ i = .int .i64 ((k : Int) + 1) ∧ vo = .slice Ao m co ∧ vl = .slice Al ql cl ∧ Hid (Ow wr w.heap.size vo (Sha.pre key info k)) ∧ Hid (Rd wr Al ql cl (Sha.T key info k)) ∧ Hid (Below w.heap.size w wr)) (fun _ _ i _ => 300 - (intOf i).toNat)
  case atStart => exact ⟨0, none, 0, none, 0, 0, 0, by omega, by omega, rfl, rfl, rfl, Ow.empty _ _, Rd.nil _ _ _ (by unfold maxLen; omega), Below.refl _ _⟩
  case round =>
    obtain ⟨k, Ao, co, Al, ql, cl, m, hk, hm, rfl, rfl, rfl, HO, HT, HB⟩ := hrel
    have hsr := HB.out.size
    have hql : ql ≤ 32 := by rw [← HT.out.len]; exact Sha.T_length key info k
    have HTL := Lib.hid HT.out.len
    have HK := Lib.hid hm
    by_cases hlt : m < n
    · have hd : decide ((m : Int) < (n : Int)) = true := by simp; omega
      have hk255 : k + 1 ≤ 255 := by omega
      obtain ⟨x, hx⟩ : ∃ x : UInt8, x = UInt8.ofNat (k + 1) := ⟨_, rfl⟩
      have HXE : Hid ((k : Int) + 1 = (x.toNat : Int)) := by unfold Hid; rw [hx]; simp; omega
      have HX := Lib.hid hx
      have RI := Lib.hid (HI.out.below HB.out)
      have RK := Lib.hid (HR.out.below HB.out)
      clear hx hm
      go_upto_region 7 with (fail)
      go_wp2_with (first
        | (at_builtin; refine onto_law rfl (.const (.slice none 0 0)) _ rfl rfl rfl HT.out (Ow.empty _ wr.heap.size) (by simp; omega) (Nat.le_refl _) (Below.refl _ _) ?_; intro v1 w1 O1 X1)
        | (at_builtin; refine onto_law rfl (.tmp 25) _ rfl rfl rfl (RI.out.below X1.out) O1.out (by simp [HTL.out]; omega) X1.out.size X1.out ?_; intro v2 w2 O2 X2)
        | (at_builtin; refine push_law rfl (.tmp 27) _ rfl rfl rfl x O2.out HXE.out (by simp [HTL.out, HIL.out]; omega) X2.out.size X2.out ?_; intro v3 w3 O3 X3))
      rw [List.nil_append] at O3
      obtain ⟨A3, c3, rfl, hr3, _⟩ := O3.out.value
      have e3 : (Sha.T key info k ++ info ++ [x]).length = ql + ni + 1 := by rw [List.length_append, List.length_append, HTL.out, HIL.out]; rfl
      rw [e3] at hr3
      rw [e3]
      have R3 := Lib.hid hr3
      have RK3 := Lib.hid (RK.out.below X3.out)
      have O30 := Lib.hid (HO.out.keep X3.out)
      have hs3 := X3.out.size
      have W3 := Lib.hid (HB.out.trans (X3.out.mono hsr))
      clear hr3 e3 O1 O2 O3 X1 X2 X3 RK RI HO HB
      refine (rhmac_any RK3.out hn R3.out (by omega)).mono ?_
      rintro e w4 ⟨D, rfl, hS, hX⟩
      have hM : D = (Sha.T key info (k + 1)).map cellOf := by
        have h0 : D = (Sha.hmac key (Sha.T key info k ++ info ++ [x])).map cellOf := hS
        rw [h0, Sha.T, HX.out]
      have hDl : D.length = 32 := by rw [hM, List.length_map, Sha.T_length']
      have HD := Lib.hid hM
      have HI30 : Hid ((Tryd.prog.info? 30).map (·.size) = some D.length) := by unfold Hid; rw [hDl]; kernel_rfl
      have HL30 : Hid ((List.replicate 32 (Value.int .u8 0)).length = D.length) := by unfold Hid; rw [hDl]; rfl
      have H130 : Hid (∀ v ∈ D, v.oneCell' = true) := by unfold Hid; rw [hM]; exact cells_u8 _
      have O4 := Lib.hid (O30.out.keep hX)
      have W4 := Lib.hid (W3.out.trans (hX.mono W3.out.size))
      have hs4 := hX.size
      clear hX hS hM hDl R3 RK3 O30 W3
      go_upto_region 8 with (first
        | ((with_reducible refine storeGen_law rfl 30 (.tmp 10) (.tmp 32) rfl w4.heap.size rfl D rfl 30 (List.replicate 32 (.int .u8 0)) HI30.out HL30.out H130.out w4.heap.size w4 ?_ ?_ (Nat.le_refl _) ?_)
           · exact Blk.at_new _ _ 30 _ _ (by rfl) rfl
           · exact (Below.refl _ _).alloc (Nat.le_refl _) _
           intro w5 B5 X5))
      have hs5 := X5.out.size
      have O5 := Lib.hid (O4.out.keep X5.out)
      have W5 := Lib.hid (W4.out.trans (X5.out.mono W4.out.size))
      have R5 : Hid (Rd w5 (some ⟨w4.heap.size, 0, none⟩) 32 32 (Sha.T key info (k + 1))) :=
        Rd.of_block B5.out (Sha.T_length' _ _ _) (Nat.le_refl _) (by unfold maxLen; omega) (fun j hj => by
          have hj' : j < (Sha.T key info (k + 1)).length := by rw [Sha.T_length']; exact hj
          rw [HD.out]
          simp [List.getD_eq_getElem?_getD, List.getElem?_eq_getElem hj'])
      clear B5 X5 O4 W4 HI30 HL30 H130
      go_upto_region 9 with (first | (at_builtin; refine onto_law rfl (.const (.slice none 0 0)) _ rfl rfl rfl R5.out (Ow.empty _ w5.heap.size) (by simp) (Nat.le_refl _) (Below.refl _ _) ?_; intro v6 w6 O6 X6))
      rw [List.nil_append] at O6
      obtain ⟨A6, c6, rfl, hr6, hg6⟩ := O6.out.value
      rw [Sha.T_length'] at hr6 hg6
      rw [Sha.T_length']
      have R6 := Lib.hid hr6
      have G6 := Lib.hid hg6
      have O7 := Lib.hid (O5.out.keep X6.out)
      have W6 := Lib.hid (W5.out.trans (X6.out.mono W5.out.size))
      have NE : Hid (0 < 32 → ∀ ad, A6 = some ad → some ad.block ≠ (Value.slice Ao m co).ownBlock) := fun _ ad had => by
        obtain ⟨g, e, hge⟩ := G6.out (by omega)
        rw [had] at e
        injection e with e
        subst e
        exact O5.out.block_ne hge
      clear hr6 hg6 O6 X6 R5 W5
      go_wp2_with (first | (at_builtin; refine onto_grown rfl (.tmp 35) _ rfl rfl rfl R6.out O7.out (by rw [Sha.pre_length]; omega) W6.out.size W6.out ?_; intro v8 w8 O8 W8 Q8))
      obtain ⟨A8, c8, rfl, hr8, _⟩ := O8.out.value
      have e8 : (Sha.pre key info k ++ Sha.T key info (k + 1)).length = m + 32 := by rw [List.length_append, Sha.pre_length, Sha.T_length', HK.out]
      rw [e8] at O8
      rw [e8]
      have R8 : Hid (Rd w8 A6 32 c6 (Sha.T key info (k + 1))) := R6.out.apart_row Q8.out NE.out
      clear hr8 e8 Q8 NE
      go_roundw
      case rel =>
        refine ⟨k + 1, A8, c8, A6, 32, c6, m + 32, by have := HK.out; omega, by have := HK.out; omega, by go_num, rfl, rfl, ?_, R8, W8⟩
        unfold Hid
        rw [Sha.pre_succ]
        exact O8.out
      case measure => simp [intOf]; omega
    · have hd : decide ((m : Int) < (n : Int)) = false := by simp; omega
      have hRo : Rd wr Ao m co (Sha.pre key info k) := by
        obtain ⟨A8, c8, e, hr8, _⟩ := HO.out.value
        have el : (Sha.pre key info k).length = m := by rw [Sha.pre_length, HK.out]
        rw [el] at e hr8
        injection e with e1 e2 e3
        subst e1; subst e3
        exact hr8
      have hcap := hRo.cap
      have hcut := hRo.front (e := n) (by omega)
      rw [← Sha.expand_pre key info n k (by omega) hk] at hcut
      have HC := Lib.hid hcut
      clear hRo hcut HO HT
      go_wp2_with fail
      go_ret
      exact ⟨_, _, rfl, HC.out, HB.out⟩
end Go.Proofs.YtbepofmkfloajaaDoor
