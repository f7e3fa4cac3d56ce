/- The contract of the statements' own beginning: the standards' first examples. -/
import Derived.Test.YtbepofmkfloajaaDoorExpand
import Derived.Test.YtbepofmkfloajaaDoorEval
import Derived.Lib.SlBytesConst
namespace Go.Proofs.YtbepofmkfloajaaDoor
set_option linter.unusedVariables false
set_option linter.unusedSimpArgs false
open Go.RowKit

theorem lit_bytesF (w : World) (l : List UInt8) (a : Array Value) (n g : Nat) (fr : Nat × Nat) (ha : a = (l.map cellOf).toArray) (hn : l.length = n) (hm : n ≤ 1000000) (hg : g = w.heap.size) : Rd (w.alloc (.cells a 5 fr)) (some ⟨g, 0, none⟩) n n l := by
  subst hg
  refine ⟨hn, Nat.le_refl _, by unfold maxLen; omega, fun _ => ⟨w.heap.size, 0, rfl, by simp, fun j hj => ?_⟩⟩
  have hj' : j < l.length := by omega
  rw [Nat.zero_add, cell_of_row _ _ j a 5 fr (heap_alloc_new w _), ha]
  simp [List.getD_eq_getElem?_getD, List.getElem?_eq_getElem hj']
theorem lit_bytes (w : World) (l : List UInt8) (a : Array Value) (n g : Nat) (ha : a = (l.map cellOf).toArray) (hn : l.length = n) (hm : n ≤ 1000000) (hg : g = w.heap.size) : Rd (w.alloc (.cells a 5)) (some ⟨g, 0, none⟩) n n l := lit_bytesF w l a n g (0, 0) ha hn hm hg
theorem conv23 (W : World) (C : Array Value) (n c : Nat) : (convert 23 23 (.slice (some ⟨W.heap.size, 0, none⟩) n c)).run Tryd.prog (W.alloc (.cells C 5)) = .ok (.slice (some ⟨W.heap.size, 0, none⟩) n c) (W.alloc (.cells C 5 (C.size, C.size + 1))) :=
  Lib.run_convert_bytes_const W 23 5 C n c Tryd.underlying23 Tryd.underlying5
theorem conv23a (W : World) (A : Obj) (C : Array Value) (n c : Nat) : (convert 23 23 (.slice (some ⟨W.heap.size + 1, 0, none⟩) n c)).run Tryd.prog ((W.alloc A).alloc (.cells C 5)) = .ok (.slice (some ⟨W.heap.size + 1, 0, none⟩) n c) ((W.alloc A).alloc (.cells C 5 (C.size, C.size + 1))) := by
  have h := conv23 (W.alloc A) C n c
  rw [World.size_alloc] at h
  exact h
theorem conv23b (W : World) (A B : Obj) (C : Array Value) (n c : Nat) : (convert 23 23 (.slice (some ⟨W.heap.size + 1 + 1, 0, none⟩) n c)).run Tryd.prog (((W.alloc A).alloc B).alloc (.cells C 5)) = .ok (.slice (some ⟨W.heap.size + 1 + 1, 0, none⟩) n c) (((W.alloc A).alloc B).alloc (.cells C 5 (C.size, C.size + 1))) := by
  have h := conv23 ((W.alloc A).alloc B) C n c
  rw [World.size_alloc, World.size_alloc] at h
  exact h
theorem lit_parts1' (w : World) {A : Option Addr} {n c g : Nat} {l : List UInt8} (h : Rd w A n c l) (hg : g = w.heap.size) : RdP (w.alloc (.cells #[.slice A n c] 23)) (some ⟨g, 0, none⟩) 1 [l] := by subst hg; exact lit_parts1 w h
theorem lit_parts2 (w : World) {A A' : Option Addr} {n c n' c' g : Nat} {l l' : List UInt8} (h : Rd w A n c l) (h' : Rd w A' n' c' l') (hg : g = w.heap.size) :
    RdP (w.alloc (.cells #[.slice A n c, .slice A' n' c'] 23)) (some ⟨g, 0, none⟩) 2 [l, l'] := by
  subst hg
  refine ⟨rfl, fun j hj => ?_⟩
  have hX := (Below.refl w.heap.size w).alloc (Nat.le_refl _) (.cells #[.slice A n c, .slice A' n' c'] 23)
  have hB := Blk.new w 23 [.slice A n c, .slice A' n' c']
  match j, hj with
  | 0, _ => exact ⟨w.heap.size, 0, A, n, c, rfl, by simp, hB.cell 0, h.below hX⟩
  | 1, _ => exact ⟨w.heap.size, 0, A', n', c', rfl, by simp, hB.cell 1, h'.below hX⟩
theorem lit_parts3' (w : World) {A A' A'' : Option Addr} {n c n' c' n'' c'' g : Nat} {l l' l'' : List UInt8} (h : Rd w A n c l) (h' : Rd w A' n' c' l') (h'' : Rd w A'' n'' c'' l'') (hg : g = w.heap.size) :
    RdP (w.alloc (.cells #[.slice A n c, .slice A' n' c', .slice A'' n'' c''] 23)) (some ⟨g, 0, none⟩) 3 [l, l', l''] := by subst hg; exact lit_parts3 w h h' h''
theorem alloc_below (w : World) (o : Obj) : Below w.heap.size w (w.alloc o) := (Below.refl _ _).alloc (Nat.le_refl _) _
theorem Summed.at_ {m : List UInt8} {D : List Value} (h : Summed m D) (j : Nat) (hj : j < 32) : D[j]? = some (.int .u8 (((Sha.sum m).getD j 0).toNat : Int)) := by
  rw [h]; exact bytes_at _ j (by rw [Sha.sum_length]; exact hj)
theorem Maced.at_ {k m : List UInt8} {D : List Value} (h : Maced k m D) (j : Nat) (hj : j < 32) : D[j]? = some (.int .u8 (((Sha.hmac k m).getD j 0).toNat : Int)) := by
  rw [h]; exact bytes_at _ j (by rw [Sha.hmac_length]; exact hj)
theorem Maced.rd {w : World} {g : Nat} {t : TypeId} {k m : List UInt8} {D : List Value} (h : Maced k m D) (hb : Blk w g t D) : Rd w (some ⟨g, 0, none⟩) 32 32 (Sha.hmac k m) :=
  Rd.of_block hb (Sha.hmac_length _ _) (Nat.le_refl _) (by unfold maxLen; omega) (fun j hj => by
    have hj' : j < (Sha.hmac k m).length := by rw [Sha.hmac_length]; exact hj
    rw [h]
    simp [List.getD_eq_getElem?_getD, List.getElem?_eq_getElem hj'])
theorem Summed.rd {w : World} {g : Nat} {t : TypeId} {m : List UInt8} {D : List Value} (h : Summed m D) (hb : Blk w g t D) : Rd w (some ⟨g, 0, none⟩) 32 32 (Sha.sum m) :=
  Rd.of_block hb (Sha.sum_length _) (Nat.le_refl _) (by unfold maxLen; omega) (fun j hj => by
    have hj' : j < (Sha.sum m).length := by rw [Sha.sum_length]; exact hj
    rw [h]
    simp [List.getD_eq_getElem?_getD, List.getElem?_eq_getElem hj'])
theorem abc : (Sha.sum [97, 98, 99]).getD 0 0 = 0xba ∧ (Sha.sum [97, 98, 99]).getD 1 0 = 0x78 ∧ (Sha.sum [97, 98, 99]).getD 31 0 = 0xad := by
  have h := Sha.sum_abc
  rw [Prod.mk.injEq, Prod.mk.injEq] at h
  exact h
theorem abc0 : ((Sha.sum [97, 98, 99]).getD 0 0).toNat = 186 := by rw [abc.1]; rfl
theorem abc1 : ((Sha.sum [97, 98, 99]).getD 1 0).toNat = 120 := by rw [abc.2.1]; rfl
theorem abc31 : ((Sha.sum [97, 98, 99]).getD 31 0).toNat = 173 := by rw [abc.2.2]; rfl
theorem jef : (Sha.hmac Sha.jefe (Sha.what ++ Sha.nothing)).getD 0 0 = 0x5b ∧ (Sha.hmac Sha.jefe (Sha.what ++ Sha.nothing)).getD 1 0 = 0xdc ∧ (Sha.hmac Sha.jefe (Sha.what ++ Sha.nothing)).getD 31 0 = 0x43 := by
  have h := Sha.hmac_jefe
  rw [Prod.mk.injEq, Prod.mk.injEq] at h
  exact h
theorem jef0 : ((Sha.hmac Sha.jefe (Sha.what ++ Sha.nothing)).getD 0 0).toNat = 91 := by rw [jef.1]; rfl
theorem jef1 : ((Sha.hmac Sha.jefe (Sha.what ++ Sha.nothing)).getD 1 0).toNat = 220 := by rw [jef.2.1]; rfl
theorem jef31 : ((Sha.hmac Sha.jefe (Sha.what ++ Sha.nothing)).getD 31 0).toNat = 67 := by rw [jef.2.2]; rfl
theorem same_t : sameB [1] [1] = true := by decide
theorem same_f : sameB [1] [2] = false := by decide

set_option maxRecDepth 100000 in
set_option maxHeartbeats 2000000 in
theorem begun_any {w : World} (hg : Gl w) : Calls Tryd.prog 15 #[] w fun e w' => e = .returned (.bool true) ∧ Below w.heap.size w w' := by
  have HG := Lib.hid hg
  have hsz := hg.size
  clear hg
  have hcv := conv23
  have hcva := conv23a
  have hcvb := conv23b
  go_enter Tryd.func15, Tryd.ntmps15
  go_wp2_with fail
  have X1 := Lib.hid (alloc_below w (.cells #[.int .u8 97, .int .u8 98, .int .u8 99] 5 (3, 4)))
  have X2 := Lib.hid (X1.out.trans ((alloc_below (w.alloc (.cells #[.int .u8 97, .int .u8 98, .int .u8 99] 5 (3, 4))) (.cells #[.slice (some ⟨w.heap.size, 0, none⟩) 3 3] 23)).mono X1.out.size))
  have HG2 := Lib.hid (HG.out.below X2.out HG.out.size)
  refine (shaSum_any (c := 1) HG2.out (lit_parts1' (g := w.heap.size + 1) _ (lit_bytesF w [97, 98, 99] _ 3 _ _ (by rfl) rfl (by omega) rfl) (by simp)) (by omega) (by simp)).mono ?_
  rintro e w3 ⟨D, rfl, hS, hX⟩
  simp only [List.flatten_cons, List.flatten_nil, List.append_nil] at hS
  have HS := Lib.hid hS
  have HI := Lib.hid hS.info
  have HL : Hid ((List.replicate 32 (Value.int .u8 0)).length = D.length) := by unfold Hid; rw [hS.len]; rfl
  have H1 := Lib.hid hS.one
  have W3 : Hid (Below w.heap.size w w3) := X2.out.trans (hX.mono X2.out.size)
  clear hS hX HG2 X1 X2
  go_upto_region 2 with (first
    | ((with_reducible refine storeGen_law rfl 30 (.tmp 1) (.tmp 6) rfl w3.heap.size rfl D rfl 30 (List.replicate 32 (.int .u8 0)) HI.out HL.out H1.out w3.heap.size w3 ?_ ?_ (Nat.le_refl _) ?_)
       · exact Blk.at_new _ _ 30 _ _ (by rfl) rfl
       · exact (Below.refl _ _).alloc (Nat.le_refl _) _
       intro w4 B4 X4))
  have W4 : Hid (Below w.heap.size w w4) := W3.out.trans (X4.out.mono W3.out.size)
  have hb4 := B4.out.lt
  obtain ⟨gh, hgh⟩ : ∃ gh, gh = w3.heap.size := ⟨_, rfl⟩
  rw [← hgh] at B4 hb4
  rw [← hgh]
  have hsw := W3.out.size
  have hsgh : w.heap.size ≤ gh := by omega
  clear HI HL H1 W3 X4 hgh hsw
  go_wp2_with fail
  have X5 := Lib.hid (alloc_below w4 (.cells #[.int .u8 74, .int .u8 101, .int .u8 102, .int .u8 101] 5 (4, 5)))
  obtain ⟨w5, hw5⟩ : ∃ w5, w5 = w4.alloc (.cells #[.int .u8 74, .int .u8 101, .int .u8 102, .int .u8 101] 5 (4, 5)) := ⟨_, rfl⟩
  have R5 : Hid (Rd w5 (some ⟨w4.heap.size, 0, none⟩) 4 4 Sha.jefe) := by unfold Hid; rw [hw5]; exact lit_bytesF w4 _ _ 4 _ _ (by rfl) rfl (by omega) rfl
  have s5 : w5.heap.size = w4.heap.size + 1 := by rw [hw5]; simp
  rw [← hw5] at X5
  obtain ⟨w6, hw6⟩ : ∃ w6, w6 = w5.alloc (.cells (Sha.what.map cellOf).toArray 5 (16, 17)) := ⟨_, rfl⟩
  have X6 : Hid (Below w5.heap.size w5 w6) := by unfold Hid; rw [hw6]; exact alloc_below _ _
  have R6 : Hid (Rd w6 (some ⟨w4.heap.size + 1, 0, none⟩) 16 16 Sha.what) := by unfold Hid; rw [hw6]; exact lit_bytesF w5 _ _ 16 _ _ (by rfl) rfl (by omega) (by omega)
  have s6 : w6.heap.size = w4.heap.size + 2 := by rw [hw6]; simp; omega
  obtain ⟨w7, hw7⟩ : ∃ w7, w7 = w6.alloc (.cells (Sha.nothing.map cellOf).toArray 5 (12, 13)) := ⟨_, rfl⟩
  have X7 : Hid (Below w6.heap.size w6 w7) := by unfold Hid; rw [hw7]; exact alloc_below _ _
  have R7 : Hid (Rd w7 (some ⟨w4.heap.size + 1 + 1, 0, none⟩) 12 12 Sha.nothing) := by unfold Hid; rw [hw7]; exact lit_bytesF w6 _ _ 12 _ _ (by rfl) rfl (by omega) (by omega)
  have s7 : w7.heap.size = w4.heap.size + 3 := by rw [hw7]; simp; omega
  have HP := Lib.hid (lit_parts2 (g := w4.heap.size + 1 + 1 + 1) w7 (R6.out.below X7.out) R7.out (by omega))
  have X8 := Lib.hid (alloc_below w7 (.cells #[.slice (some ⟨w4.heap.size + 1, 0, none⟩) 16 16, .slice (some ⟨w4.heap.size + 1 + 1, 0, none⟩) 12 12] 23))
  have X48 := Lib.hid ((X5.out.trans (X6.out.mono (by omega))).trans ((X7.out.mono (by omega)).trans (X8.out.mono (by omega))))
  have HR8 := Lib.hid (((R5.out.below X6.out).below X7.out).below X8.out)
  have W8 := Lib.hid (W4.out.trans (X48.out.mono W4.out.size))
  have HG8 := Lib.hid (HG.out.below W8.out HG.out.size)
  have hcall := Lib.hid (hmac_any (c' := 2) HG8.out HR8.out (by omega) HP.out (by omega) (by decide))
  rw [hw7, hw6, hw5] at hcall
  have hcall2 : Hid (Calls Tryd.prog 23 #[.slice (some ⟨w4.heap.size, 0, none⟩) 4 4, .slice (some ⟨w4.heap.size + 1 + 1 + 1, 0, none⟩) 2 2] _ _) := hcall
  refine hcall2.out.mono ?_
  rintro e w9 ⟨D2, rfl, hM, hX⟩
  rw [← hw5, ← hw6, ← hw7] at hX
  simp only [List.flatten_cons, List.flatten_nil, List.append_nil] at hM
  have HM := Lib.hid hM
  have HI := Lib.hid hM.info
  have HL : Hid ((List.replicate 32 (Value.int .u8 0)).length = D2.length) := by unfold Hid; rw [hM.len]; rfl
  have H1 := Lib.hid hM.one
  have W9 : Hid (Below w.heap.size w w9) := W8.out.trans (hX.mono W8.out.size)
  have B9 : Hid (Blk w9 gh 30 D) := (B4.out.below X48.out hb4).below hX (by have := X48.out.size; omega)
  clear hM hX hcall hcall2 HR8 HG8 HP X8 X48 R5 R6 R7 X5 X6 X7 s5 s6 s7 hw5 hw6 hw7 W8 B4 W4 hb4
  go_upto_region 3 with (first
    | ((with_reducible refine storeGen_law rfl 30 (.tmp 2) (.tmp 14) rfl w9.heap.size rfl D2 rfl 30 (List.replicate 32 (.int .u8 0)) HI.out HL.out H1.out w9.heap.size w9 ?_ ?_ (Nat.le_refl _) ?_)
       · exact Blk.at_new _ _ 30 _ _ (by rfl) rfl
       · exact (Below.refl _ _).alloc (Nat.le_refl _) _
       intro w10 B10 X10))
  have W10 : Hid (Below w.heap.size w w10) := W9.out.trans (X10.out.mono W9.out.size)
  have BD : Hid (Blk w10 gh 30 D) := B9.out.below X10.out B9.out.lt
  have hgk := B10.out.lt
  obtain ⟨gk, hgke⟩ : ∃ gk, gk = w9.heap.size := ⟨_, rfl⟩
  rw [← hgke] at B10 hgk
  rw [← hgke]
  have c0 : w10.cell? ⟨gh, 0, none⟩ = some (.int .u8 186) := by rw [BD.out.cell, HS.out.at_ 0 (by omega), abc0]; rfl
  have c1 : w10.cell? ⟨gh, 1, none⟩ = some (.int .u8 120) := by rw [BD.out.cell, HS.out.at_ 1 (by omega), abc1]; rfl
  have c2 : w10.cell? ⟨gh, 31, none⟩ = some (.int .u8 173) := by rw [BD.out.cell, HS.out.at_ 31 (by omega), abc31]; rfl
  have d0 : w10.cell? ⟨gk, 0, none⟩ = some (.int .u8 91) := by rw [B10.out.cell, HM.out.at_ 0 (by omega), jef0]; rfl
  have d1 : w10.cell? ⟨gk, 1, none⟩ = some (.int .u8 220) := by rw [B10.out.cell, HM.out.at_ 1 (by omega), jef1]; rfl
  have d2 : w10.cell? ⟨gk, 31, none⟩ = some (.int .u8 67) := by rw [B10.out.cell, HM.out.at_ 31 (by omega), jef31]; rfl
  have HG10 := Lib.hid (HG.out.below W10.out HG.out.size)
  have HRk := Lib.hid (HM.out.rd B10.out)
  clear HI HL H1 W9 X10 hgke B9 BD B10 HS HM
  go_wp2_with fail
  clear c0 c1 c2 d0 d1 d2
  refine (expand_any HG10.out HRk.out (by omega) (Rd.nil _ none 0 (by unfold maxLen; omega)) (by omega) 40 (by omega) (by omega)).mono ?_
  rintro e w11 ⟨g11, rfl, _, _, hX⟩
  have W11 : Hid (Below w.heap.size w w11) := W10.out.trans (hX.mono W10.out.size)
  clear hX W10 HG10 HRk
  have Y1 := Lib.hid (alloc_below w11 (.cells #[.int .u8 1] 5))
  have Y2 := Lib.hid (Y1.out.trans ((alloc_below (w11.alloc (.cells #[.int .u8 1] 5)) (.cells #[.int .u8 1] 5)).mono Y1.out.size))
  go_wp2_with fail
  refine (same_any ((lit_bytes w11 [1] _ 1 _ (by rfl) rfl (by omega) rfl).below (alloc_below _ _)) (lit_bytes _ [1] _ 1 _ (by rfl) rfl (by omega) (by simp))).mono ?_
  rintro e w12 ⟨rfl, hX⟩
  rw [same_t]
  have W12 : Hid (Below w.heap.size w w12) := (W11.out.trans (Y2.out.mono W11.out.size)).trans (hX.mono (Nat.le_trans W11.out.size Y2.out.size))
  clear hX Y1 Y2 W11
  have Y1 := Lib.hid (alloc_below w12 (.cells #[.int .u8 1] 5))
  have Y2 := Lib.hid (Y1.out.trans ((alloc_below (w12.alloc (.cells #[.int .u8 1] 5)) (.cells #[.int .u8 2] 5)).mono Y1.out.size))
  go_wp2_with fail
  refine (same_any ((lit_bytes w12 [1] _ 1 _ (by rfl) rfl (by omega) rfl).below (alloc_below _ _)) (lit_bytes _ [2] _ 1 _ (by rfl) rfl (by omega) (by simp))).mono ?_
  rintro e w13 ⟨rfl, hX⟩
  rw [same_f]
  have W13 : Hid (Below w.heap.size w w13) := (W12.out.trans (Y2.out.mono W12.out.size)).trans (hX.mono (Nat.le_trans W12.out.size Y2.out.size))
  clear hX Y1 Y2 W12
  go_wp2_with fail
  go_ret
  exact ⟨rfl, W13.out⟩
end Go.Proofs.YtbepofmkfloajaaDoor
