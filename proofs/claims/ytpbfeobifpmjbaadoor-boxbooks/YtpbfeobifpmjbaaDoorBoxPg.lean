/- The landed box: Mark and Label of a real one, Is; package box answers as the document says. -/
import Derived.Test.YtpbfeobifpmjbaaDoorBoxPe
import Derived.Test.YtpbfeobifpmjbaaDoorBoxPf
import Derived.Test.YtpbfeobifpmjbaaDoorPhl
import Derived.Laws.IdiomStrings
namespace Go.Proofs.YtpbfeobifpmjbaaDoor
set_option linter.unusedVariables false
set_option linter.unusedSimpArgs false
set_option maxRecDepth 100000
open Go.RowKit

theorem blk_rd32 {w : World} {g : Nat} {T : TypeId} {m : List UInt8} (hb : Blk w g T (m.map cellOf)) (hl : m.length = 32) : Rd w (some ⟨g, 0, none⟩) 32 32 m :=
  Rd.of_block hb hl (Nat.le_refl _) (by unfold maxLen; omega) (fun j hj => by
    rw [Nat.zero_add]
    simp [cellOf, List.getD_eq_getElem?_getD, List.getElem?_eq_getElem (show j < m.length by omega)])
/-- '[]byte(s)'. -/
theorem conv_str (l : List UInt8) (hl : l.length ≤ 1000000) (W : World) : ∃ c W', (convert 9 28 (.string ⟨l.toArray⟩)).run Tryd.prog W = .ok (.slice (some ⟨W.heap.size, 0, none⟩) l.length c) W' ∧ Rd W' (some ⟨W.heap.size, 0, none⟩) l.length c l ∧ Below W.heap.size W W' := by
  have hsz : (⟨l.toArray⟩ : ByteArray).size = l.length := by show l.toArray.size = _; simp
  have hr := run_bytes_of_string (P := Tryd.prog) W 9 28 5 ⟨l.toArray⟩ Tryd.underlying9 Tryd.underlying28 Tryd.underlying5
  have h1 := grownCap_ge W l.length 0 5
  have h2 := grownCap_le_maxLen W l.length 0 5 (by unfold maxLen; omega)
  rw [hsz] at hr
  generalize grownCap W l.length 0 5 = c at *
  generalize hfr : ((bytesRow ⟨l.toArray⟩ c).size, (bytesRow ⟨l.toArray⟩ c).size + 1) = fr at *
  refine ⟨c, _, hr, ⟨rfl, h1, h2, fun h0 => ⟨W.heap.size, 0, rfl, ?_, fun j hj => ?_⟩⟩, ?_⟩
  · show W.heap.size < (W.drew.alloc _).heap.size
    have : W.drew.heap.size = W.heap.size := rfl
    simp
  · have hb : (W.drew.alloc (.cells (bytesRow ⟨l.toArray⟩ c) 5 fr)).heap[W.heap.size]? = some (.cells (bytesRow ⟨l.toArray⟩ c) 5 fr) := heap_alloc_new W.drew _
    rw [Nat.zero_add, cell_of_row _ _ j _ 5 fr hb]
    unfold bytesRow
    have hj2 : j < (l.toArray.map (fun b => Value.int .u8 b.toNat)).size := by simpa using hj
    rw [Array.getElem?_append_left hj2]
    simp [cellOf, List.getD_eq_getElem?_getD, hj]
  · exact ((Below.refl _ _).drew).alloc (Nat.le_refl _) _

set_option maxRecDepth 100000 in
set_option maxHeartbeats 2000000 in
theorem bmkR {w : World} {g : Nat} {A : Option Addr} {n c : Nat} {b : List UInt8} (key : List UInt8) (hG : Gl w) (hg : Blk w g 53 [.pointer none]) (h32 : key.length = 32) (hrb : Rd w A n c b) (hnb : n ≤ 100000) :
    Calls Tryd.prog 14 #[.pointer (some ⟨g, 0, none⟩), .agg (key.map cellOf).toArray, .slice A n c] w (RetH w (Sha.hmac key b)) := by
  obtain ⟨kc, hkc⟩ : ∃ kc, kc = key.map cellOf := ⟨_, rfl⟩
  obtain ⟨D, hD⟩ : ∃ D, D = (Sha.hmac key b).map cellOf := ⟨_, rfl⟩
  have hDl : D.length = 32 := by rw [hD, List.length_map, Sha.hmac_length]
  have ID : Hid ((Tryd.prog.info? 34).map (·.size) = some D.length) := by unfold Hid; rw [hDl]; kernel_rfl
  have LD : Hid ((List.replicate 32 (Value.int .u8 0)).length = D.length) := by unfold Hid; rw [hDl]; rfl
  have OD : Hid (∀ v ∈ D, v.oneCell' = true) := by unfold Hid; rw [hD]; exact cells_u8 _
  have CH : Hid (∀ (W : World) (A1 : Option Addr) (q c1 : Nat), Gl W → Blk W q 34 kc → RdP W A1 1 [b] → Calls Tryd.prog 29 #[.slice (some ⟨q, 0, none⟩) 32 32, .slice A1 1 c1] W fun e w' => e = .returned (.agg D.toArray) ∧ Below W.heap.size W w') := fun W A1 q c1 h1 h2 h3 => by
    rw [hkc] at h2
    refine (hmac_any (c' := c1) h1 (blk_rd32 h2 h32) (by omega) h3 (by omega) (by simp; have := hrb.len; omega)).mono ?_
    rintro e w' ⟨D', rfl, hS, hX⟩
    have e1 : D' = D := by
      rw [hS, hD]
      simp
    rw [e1]
    exact ⟨rfl, hX⟩
  have HG := Lib.hid hG
  have HBG := Lib.hid hg
  have hgl := hg.lt
  have HRB := Lib.hid hrb
  unfold RetH
  rw [← hkc, ← hD]
  clear hG hg hrb hkc hD hDl h32
  go_enter Tryd.func14, Tryd.ntmps14
  go_upto_region 1 with (fail)
  obtain ⟨w0, hw0⟩ : ∃ w0, w0 = (w.alloc (Obj.cells kc.toArray 34)).alloc (Obj.cells (List.replicate 32 (Value.int .u8 0)).toArray 34) := ⟨_, rfl⟩
  have B4 : Hid (Blk w0 w.heap.size 34 kc) := by unfold Hid; rw [hw0]; exact (Blk.new w _ _).alloc _
  have B6 : Hid (Blk w0 (w.heap.size + 1) 34 (List.replicate 32 (Value.int .u8 0))) := by unfold Hid; rw [hw0]; exact Blk.at_new _ _ _ _ _ rfl (by simp)
  have W0 : Hid (Below w.heap.size w w0) := by unfold Hid; rw [hw0]; exact ((Below.refl _ _).alloc (Nat.le_refl _) _).alloc (by simp) _
  have hs0 : w.heap.size + 2 ≤ w0.heap.size := by rw [hw0]; simp
  change Code.wp _ _ _ _ ((w.alloc (Obj.cells kc.toArray 34)).alloc (Obj.cells (List.replicate 32 (Value.int .u8 0)).toArray 34))
  rw [← hw0]
  clear hw0
  have c0 : w0.cell? ⟨g, 0, none⟩ = some (.pointer none) := (HBG.out.below W0.out hgl).cell 0
  go_upto_region 5 with (fail)
  clear c0
  obtain ⟨q, hq⟩ : ∃ q, q = w.heap.size := ⟨_, rfl⟩
  obtain ⟨q1, hq1⟩ : ∃ q, q = w.heap.size + 1 := ⟨_, rfl⟩
  rw [← hq] at B4
  rw [← hq1] at B6
  rw [← hq1, ← hq]
  have hqa : w.heap.size ≤ q := by omega
  have hqb : w.heap.size ≤ q1 := by omega
  have hqc : q1 < w0.heap.size := B6.out.lt
  clear hq hq1
  have hsl := fun W => sliceAt_all 34 32 Tryd.underlying34 q 0 W
  go_wp2_with fail
  have X1 := alloc_below w0 (.cells #[.slice A n c] 28)
  refine (CH.out _ _ _ _ (HG.out.below (W0.out.trans (X1.mono (by omega))) HG.out.size) (B4.out.below X1 B4.out.lt) (lit_parts1 w0 (HRB.out.below W0.out))).mono ?_
  rintro e w3 ⟨rfl, hX⟩
  have X3 := X1.trans (hX.mono X1.size)
  clear X1 hX
  have B8 := Lib.hid (B6.out.below X3 B6.out.lt)
  have W3 := Lib.hid (W0.out.trans (X3.mono (by omega)))
  clear X3 hsl B4 B6 W0
  go_wp2_with (first
    | (with_reducible refine storeGen_law rfl 34 (.tmp 6) (.tmp 36) rfl q1 rfl D rfl 34 (List.replicate 32 (Value.int .u8 0)) ID.out LD.out OD.out w.heap.size w B8.out W3.out hqb ?_; intro w4 B9 X4))
  exact bodyPost_ret (results_cell_row rfl _ _ q1 34 D.toArray (0, 0) _ rfl B9.out Tryd.underlying34 rfl (by rw [ID.out]; simp)) rfl ⟨rfl, X4.out⟩

set_option maxRecDepth 100000 in
set_option maxHeartbeats 2000000 in
theorem blbR {w : World} {g : Nat} {b : List UInt8} (key : List UInt8) (hG : Gl w) (hg : Blk w g 53 [.pointer none]) (h32 : key.length = 32) (hnb : b.length ≤ 100000) :
    Calls Tryd.prog 16 #[.pointer (some ⟨g, 0, none⟩), .agg (key.map cellOf).toArray, .string ⟨b.toArray⟩] w (RetH w (Sha.hmac key (1 :: b))) := by
  obtain ⟨kc, hkc⟩ : ∃ kc, kc = key.map cellOf := ⟨_, rfl⟩
  obtain ⟨D, hD⟩ : ∃ D, D = (Sha.hmac key (1 :: b)).map cellOf := ⟨_, rfl⟩
  have hDl : D.length = 32 := by rw [hD, List.length_map, Sha.hmac_length]
  have ID : Hid ((Tryd.prog.info? 34).map (·.size) = some D.length) := by unfold Hid; rw [hDl]; kernel_rfl
  have LD : Hid ((List.replicate 32 (Value.int .u8 0)).length = D.length) := by unfold Hid; rw [hDl]; rfl
  have OD : Hid (∀ v ∈ D, v.oneCell' = true) := by unfold Hid; rw [hD]; exact cells_u8 _
  have CH : Hid (∀ (W : World) (A1 : Option Addr) (q c1 : Nat), Gl W → Blk W q 34 kc → RdP W A1 2 [[1], b] → Calls Tryd.prog 29 #[.slice (some ⟨q, 0, none⟩) 32 32, .slice A1 2 c1] W fun e w' => e = .returned (.agg D.toArray) ∧ Below W.heap.size W w') := fun W A1 q c1 h1 h2 h3 => by
    rw [hkc] at h2
    refine (hmac_any (c' := c1) h1 (blk_rd32 h2 h32) (by omega) h3 (by omega) (by simp; omega)).mono ?_
    rintro e w' ⟨D', rfl, hS, hX⟩
    have e1 : D' = D := by
      rw [hS, hD]
      simp
    rw [e1]
    exact ⟨rfl, hX⟩
  have HG := Lib.hid hG
  have HBG := Lib.hid hg
  have hgl := hg.lt

  unfold RetH
  rw [← hkc, ← hD]
  clear hG hg hkc hD hDl h32
  go_enter Tryd.func16, Tryd.ntmps16
  go_upto_region 1 with (fail)
  obtain ⟨w0, hw0⟩ : ∃ w0, w0 = (w.alloc (Obj.cells kc.toArray 34)).alloc (Obj.cells (List.replicate 32 (Value.int .u8 0)).toArray 34) := ⟨_, rfl⟩
  have B4 : Hid (Blk w0 w.heap.size 34 kc) := by unfold Hid; rw [hw0]; exact (Blk.new w _ _).alloc _
  have B6 : Hid (Blk w0 (w.heap.size + 1) 34 (List.replicate 32 (Value.int .u8 0))) := by unfold Hid; rw [hw0]; exact Blk.at_new _ _ _ _ _ rfl (by simp)
  have W0 : Hid (Below w.heap.size w w0) := by unfold Hid; rw [hw0]; exact ((Below.refl _ _).alloc (Nat.le_refl _) _).alloc (by simp) _
  have hs0 : w.heap.size + 2 ≤ w0.heap.size := by rw [hw0]; simp
  change Code.wp _ _ _ _ ((w.alloc (Obj.cells kc.toArray 34)).alloc (Obj.cells (List.replicate 32 (Value.int .u8 0)).toArray 34))
  rw [← hw0]
  clear hw0
  have c0 : w0.cell? ⟨g, 0, none⟩ = some (.pointer none) := (HBG.out.below W0.out hgl).cell 0
  go_upto_region 5 with (fail)
  clear c0
  obtain ⟨q, hq⟩ : ∃ q, q = w.heap.size := ⟨_, rfl⟩
  obtain ⟨q1, hq1⟩ : ∃ q, q = w.heap.size + 1 := ⟨_, rfl⟩
  rw [← hq] at B4
  rw [← hq1] at B6
  rw [← hq1, ← hq]
  have hqa : w.heap.size ≤ q := by omega
  have hqb : w.heap.size ≤ q1 := by omega
  have hqc : q1 < w0.heap.size := B6.out.lt
  clear hq hq1
  have hsl := fun W => sliceAt_all 34 32 Tryd.underlying34 q 0 W
  obtain ⟨cb, w1, hcv, hRb, hXb⟩ := conv_str b (by omega) (w0.alloc (.cells #[.int .u8 1] 5))
  have X1 := alloc_below w0 (.cells #[.int .u8 1] 5)
  have R1 : Rd w1 (some ⟨w0.heap.size, 0, none⟩) 1 1 [1] := (Rd.of_block (off := 0) (n := 1) (c := 1) (l := [1]) (Blk.at_new w0 _ 5 [.int .u8 1] _ rfl rfl) rfl (Nat.le_refl _) (by unfold maxLen; omega) (fun j hj => by obtain rfl : j = 0 := (by omega); rfl)).below hXb
  have X2 := X1.trans (hXb.mono X1.size)
  have RL := Lib.hid (lit_parts2 w1 R1 hRb rfl)
  have X4 := Lib.hid (X2.trans ((alloc_below w1 (.cells #[.slice (some ⟨w0.heap.size, 0, none⟩) 1 1, .slice (some ⟨(w0.alloc (.cells #[.int .u8 1] 5)).heap.size, 0, none⟩) b.length cb] 28)).mono X2.size))
  clear hRb hXb X1 R1 X2
  have hsz1 : (w0.alloc (.cells #[.int .u8 1] 5)).heap.size = w0.heap.size + 1 := by simp
  rw [hsz1] at hcv RL X4
  go_wp2_with fail
  refine (CH.out _ _ _ _ (HG.out.below (W0.out.trans (X4.out.mono (by omega))) HG.out.size) (B4.out.below X4.out B4.out.lt) RL.out).mono ?_
  rintro e w3 ⟨rfl, hX⟩
  have X3 := X4.out.trans (hX.mono X4.out.size)
  clear X4 hX hcv RL
  have B8 := Lib.hid (B6.out.below X3 B6.out.lt)
  have W3 := Lib.hid (W0.out.trans (X3.mono (by omega)))
  clear X3 hsl B4 B6 W0
  go_wp2_with (first
    | (with_reducible refine storeGen_law rfl 34 (.tmp 6) (.tmp 38) rfl q1 rfl D rfl 34 (List.replicate 32 (Value.int .u8 0)) ID.out LD.out OD.out w.heap.size w B8.out W3.out hqb ?_; intro w4 B9 X4))
  exact bodyPost_ret (results_cell_row rfl _ _ q1 34 D.toArray (0, 0) _ rfl B9.out Tryd.underlying34 rfl (by rw [ID.out]; simp)) rfl ⟨rfl, X4.out⟩

set_option maxRecDepth 100000 in
theorem bisZ (w : World) (key h : List UInt8) (A : Option Addr) (n c : Nat) : Calls Tryd.prog 15 #[.pointer none, .agg (key.map cellOf).toArray, .slice A n c, .agg (h.map cellOf).toArray] w fun e w' => e = .returned (.bool false) ∧ Below w.heap.size w w' := by
  generalize key.map cellOf = kc
  generalize h.map cellOf = hc
  go_enter Tryd.func15, Tryd.ntmps15
  go_wp2_with fail
  go_ret
  exact ⟨rfl, ((Below.refl _ _).alloc (Nat.le_refl _) _).alloc (by simp) _⟩

set_option maxRecDepth 100000 in
set_option maxHeartbeats 4000000 in
theorem bisR {w : World} {g : Nat} {A : Option Addr} {n c : Nat} {b : List UInt8} (key h : List UInt8) (hG : Gl w) (hg : Blk w g 53 [.pointer none]) (h32 : key.length = 32) (hh : h.length = 32) (hrb : Rd w A n c b) (hnb : n ≤ 100000) :
    Calls Tryd.prog 15 #[.pointer (some ⟨g, 0, none⟩), .agg (key.map cellOf).toArray, .slice A n c, .agg (h.map cellOf).toArray] w fun e w' => e = .returned (.bool (decide (Sha.hmac key b = h))) ∧ Below w.heap.size w w' := by
  obtain ⟨kc, hkc⟩ : ∃ kc, kc = key.map cellOf := ⟨_, rfl⟩
  obtain ⟨hc, hhc⟩ : ∃ kc, kc = h.map cellOf := ⟨_, rfl⟩
  obtain ⟨m, hm⟩ : ∃ m, m = Sha.hmac key b := ⟨_, rfl⟩
  have LM : Hid (m.length = 32) := by unfold Hid; rw [hm, Sha.hmac_length]
  obtain ⟨D, hD⟩ : ∃ D, D = m.map cellOf := ⟨_, rfl⟩
  have hDl : D.length = 32 := by rw [hD, List.length_map, LM.out]
  have ID : Hid ((Tryd.prog.info? 34).map (·.size) = some D.length) := by unfold Hid; rw [hDl]; kernel_rfl
  have LD : Hid ((List.replicate 32 (Value.int .u8 0)).length = D.length) := by unfold Hid; rw [hDl]; rfl
  have OD : Hid (∀ v ∈ D, v.oneCell' = true) := by unfold Hid; rw [hD]; exact cells_u8 _
  have CH : Hid (∀ (W : World) (A1 : Option Addr) (q c1 : Nat), Gl W → Blk W q 34 kc → RdP W A1 1 [b] → Calls Tryd.prog 29 #[.slice (some ⟨q, 0, none⟩) 32 32, .slice A1 1 c1] W fun e w' => e = .returned (.agg D.toArray) ∧ Below W.heap.size W w') := fun W A1 q c1 h1 h2 h3 => by
    rw [hkc] at h2
    refine (hmac_any (c' := c1) h1 (blk_rd32 h2 h32) (by omega) h3 (by omega) (by simp; have := hrb.len; omega)).mono ?_
    rintro e w' ⟨D', rfl, hS, hX⟩
    have e1 : D' = D := by
      rw [hS, hD, hm]
      simp
    rw [e1]
    exact ⟨rfl, hX⟩
  have CSM : Hid (∀ (W : World) (qa qb : Nat), Blk W qa 34 D → Blk W qb 34 hc → Calls Tryd.prog 30 #[.slice (some ⟨qa, 0, none⟩) 32 32, .slice (some ⟨qb, 0, none⟩) 32 32] W fun e w' => e = .returned (.bool (decide (m = h))) ∧ Below W.heap.size W w') := fun W qa qb h1 h2 => by
    rw [hD] at h1
    rw [hhc] at h2
    exact same_any (blk_rd32 h1 LM.out) (blk_rd32 h2 hh)
  have HG := Lib.hid hG
  have HBG := Lib.hid hg
  have hgl := hg.lt
  have HRB := Lib.hid hrb
  rw [← hkc, ← hhc, ← hm]
  clear hG hg hrb hkc hhc hD hDl h32 hh hm
  go_enter Tryd.func15, Tryd.ntmps15
  go_upto_region 1 with (fail)
  obtain ⟨w0, hw0⟩ : ∃ w0, w0 = (w.alloc (Obj.cells kc.toArray 34)).alloc (Obj.cells hc.toArray 34) := ⟨_, rfl⟩
  have B4 : Hid (Blk w0 w.heap.size 34 kc) := by unfold Hid; rw [hw0]; exact (Blk.new w _ _).alloc _
  have B6 : Hid (Blk w0 (w.heap.size + 1) 34 hc) := by unfold Hid; rw [hw0]; exact Blk.at_new _ _ _ _ _ rfl (by simp)
  have W0 : Hid (Below w.heap.size w w0) := by unfold Hid; rw [hw0]; exact ((Below.refl _ _).alloc (Nat.le_refl _) _).alloc (by simp) _
  have hs0 : w.heap.size + 2 ≤ w0.heap.size := by rw [hw0]; simp
  change Code.wp _ _ _ _ ((w.alloc (Obj.cells kc.toArray 34)).alloc (Obj.cells hc.toArray 34))
  rw [← hw0]
  clear hw0
  have c0 : w0.cell? ⟨g, 0, none⟩ = some (.pointer none) := (HBG.out.below W0.out hgl).cell 0
  go_upto_region 6 with (fail)
  clear c0
  obtain ⟨q, hq⟩ : ∃ q, q = w.heap.size := ⟨_, rfl⟩
  obtain ⟨q1, hq1⟩ : ∃ q, q = w.heap.size + 1 := ⟨_, rfl⟩
  rw [← hq] at B4
  rw [← hq1] at B6
  rw [← hq1, ← hq]
  have hqa : w.heap.size ≤ q := by omega
  have hqb : w.heap.size ≤ q1 := by omega
  have hqc : q1 < w0.heap.size := B6.out.lt
  clear hq hq1
  have hsl := fun W => sliceAt_all 34 32 Tryd.underlying34 q 0 W
  go_wp2_with fail
  have X1 := alloc_below w0 (.cells #[.slice A n c] 28)
  refine (CH.out _ _ _ _ (HG.out.below (W0.out.trans (X1.mono (by omega))) HG.out.size) (B4.out.below X1 B4.out.lt) (lit_parts1 w0 (HRB.out.below W0.out))).mono ?_
  rintro e w3 ⟨rfl, hX⟩
  have X3 := X1.trans (hX.mono X1.size)
  have B8 := Lib.hid (B6.out.below X3 B6.out.lt)
  have W3 := Lib.hid (W0.out.trans (X3.mono (by omega)))
  clear X1 hX X3 hsl B4 B6 W0
  go_upto_region 7 with (first
    | ((with_reducible refine storeGen_law rfl 34 (.tmp 11) (.tmp 45) rfl w3.heap.size rfl D rfl 34 (List.replicate 32 (Value.int .u8 0)) ID.out LD.out OD.out w3.heap.size w3 ?_ ?_ (Nat.le_refl _) ?_)
       · exact Blk.at_new _ _ 34 _ _ (by rfl) rfl
       · exact (Below.refl _ _).alloc (Nat.le_refl _) _
       intro w4 B9 X4))
  obtain ⟨q2, hq2⟩ : ∃ q, q = w3.heap.size := ⟨_, rfl⟩
  rw [← hq2] at B9
  rw [← hq2]
  clear hq2
  replace B8 := Lib.hid (B8.out.below X4.out B8.out.lt).drew
  replace B9 := Lib.hid B9.out.drew
  have hs3 := W3.out.size
  have W4 := Lib.hid (W3.out.trans (X4.out.mono hs3)).drew
  clear W3 X4
  refine wp_region_any (by kernel_rfl) ?_
  change wpAny _ _ _ _ _ _ _ (World.drew _)
  generalize w4.drew = w5 at *
  have hsa := fun W => sliceAt_all 34 32 Tryd.underlying34 q2 0 W
  have hsb := fun W => sliceAt_all 34 32 Tryd.underlying34 q1 0 W
  refine wpAny_take (i := 0) (oi := ?oi1) (v := .slice (some ⟨q2, 0, none⟩) 32 32) ?hi1 (by kernel_rfl) (by kernel_rfl) (by kernel_rfl) ?hQ1 ?hy1 ?rest1
  case hi1 => simp only [List.getElem?_toArray, List.getElem?_cons_succ, List.getElem?_cons_zero]; rfl
  case hQ1 => exact fun _ _ _ h => h
  case hy1 => exact Or.inl ⟨by rfl, by intro w; go_simp⟩
  try simp only [Act.put, List.setIfInBounds_toArray, List.set_cons_zero, List.set_cons_succ]
  refine wpAny_take (i := 1) (oi := ?oi2) (v := .slice (some ⟨q1, 0, none⟩) 32 32) ?hi2 (by kernel_rfl) (by kernel_rfl) (by kernel_rfl) ?hQ2 ?hy2 ?rest2
  case hi2 => simp only [List.getElem?_toArray, List.getElem?_cons_succ, List.getElem?_cons_zero]; rfl
  case hQ2 => exact fun _ _ _ h => h
  case hy2 => exact Or.inl ⟨by rfl, by intro w; go_simp⟩
  try simp only [Act.put, List.setIfInBounds_toArray, List.set_cons_zero, List.set_cons_succ]
  refine wpAny_ready (rs := [2]) (by kernel_rfl) (by simp) ?_
  refine AllReady.cons (o := ?p3) ?q3 (fun K hK => ?_) AllReady.nil
  case q3 => simp only [List.getElem?_toArray, List.getElem?_cons_succ, List.getElem?_cons_zero]; rfl
  go_simp
  refine (CSM.out w5 q2 q1 B9.out B8.out).mono ?_
  rintro e w6 ⟨rfl, hX⟩
  refine hK _ _ ?_
  clear hK K
  try simp only [Act.put, List.setIfInBounds_toArray, List.set_cons_zero, List.set_cons_succ]
  have hs4 := W4.out.size
  have W6 := Lib.hid (W4.out.trans (hX.mono hs4))
  clear hX hsa hsb
  refine wpAny_take (i := 3) (oi := ?oi4) (v := .bool (decide (m = h))) ?hi4 (by kernel_rfl) (by kernel_rfl) (by kernel_rfl) ?hQ4 ?hy4 ?rest4
  case hi4 => simp only [List.getElem?_toArray, List.getElem?_cons_succ, List.getElem?_cons_zero]; rfl
  case hQ4 => exact fun _ _ _ h => h
  case hy4 => exact Or.inl ⟨by rfl, by intro w; go_simp⟩
  try simp only [Act.put, List.setIfInBounds_toArray, List.set_cons_zero, List.set_cons_succ]
  refine wpAny_done (by kernel_rfl) ?_ _
  go_wp2_with fail
  go_ret
  exact ⟨rfl, W6.out⟩

/-- What a book says of a mark. -/
theorem BxJ.marked {w : World} {g k t r1 r2 r3 : Nat} {s : Int} {a : Nat} {S : List Bx.SNote} {B L : List Bx.BNote} {ES EB EL : List (Value × Value)} {M : Nat → Prop} (J : BxJ w g k t r1 r2 r3 s a S B L ES EB EL M) {key b : List UInt8} (h32 : key.length = 32) (hb : b.length ≤ 100000) : ∃ vc ok, (∀ W : World, W.heap[r2]? = w.heap[r2]? → (Instr.lookup 63 (.map (some r2)) (mkKey key b) true).run Tryd.prog W = .ok (.tuple #[.agg (List.map cellOf vc).toArray, .bool ok]) W) ∧ List.length vc = 32 ∧ ∀ h, (ok && sameB vc h) = decide (Bx.lookB key b B = some h) := by
  have HK := keyM (b := b) h32 (by unfold maxLen; omega)
  cases hl : Bx.lookB key b B with
  | some hh =>
    obtain ⟨h1, h2⟩ := J.sB.found h32 hl
    refine ⟨hh, true, fun W hW => ?_, Bx.lookB_length J.gB hl, fun h => ?_⟩
    · rcases (J.mB.keep hW).look lawM Tryd.underlying63 (zero34 W) HK with ⟨_, hn⟩ | ⟨v, hr, hi⟩
      · obtain ⟨v, hv⟩ := h2
        exact absurd hv (hn v)
      · rw [hr, h1 v hi]
    · simp [sameB]
  | none =>
    refine ⟨zero32, false, fun W hW => ?_, by simp [zero32], fun h => by simp⟩
    rcases (J.mB.keep hW).look lawM Tryd.underlying63 (zero34 W) HK with ⟨hr, _⟩ | ⟨v, hr, hi⟩
    · rw [hr, show zero32.map cellOf = (List.replicate 32 (Value.int .u8 0)) by unfold zero32; rw [List.map_replicate]; rfl]
    · exact absurd hi (J.sB.lost h32 hl v)
/-- A whole array is loaded, where it is wanted. -/
theorem load_when {P : Program} {ops : Array Oper} {rest : List Oper} {o : Oper} {a : Act} {w : World} {Q : Exit → Act → World → Prop} (hgd : Region.wanted o (yielded ops a.tmps) = true) (ty : TypeId) (x : Operand) (ho : o.op = .load ty x)
    (b off : Nat) (hx : a.eval x = .pointer (some ⟨b, off, none⟩)) (l : List Value) (d : TypeDesc) (hu : P.underlying ty = some d) (hd : (match d with | .struct _ | .array _ _ => true | _ => false) = true)
    (hi : (P.info? ty).map (·.size) = some l.length) (h : ∀ j v, l[j]? = some v → w.cell? ⟨b, off + j, none⟩ = some v)
    (hk : wpList P ops Q rest (a.put o.dst (.agg l.toArray)) w) : wpList P ops Q (o :: rest) a w := by
  refine wpList_step fun K hK => ?_
  rw [if_pos hgd]
  unfold Oper.wp execOp
  simp only [ho, hx, Instr.loadAt, Instr.sureAddr, Sem.run_bind, Sem.run_pure, Result.andThen_ok, run_loadVar_list w ty b off l d hu hd hi h]
  exact hK _ _ hk

set_option maxRecDepth 100000 in
set_option maxHeartbeats 4000000 in
theorem bisI {w : World} {g k t r1 r2 r3 : Nat} {s : Int} {a : Nat} {S : List Bx.SNote} {B L : List Bx.BNote} {ES EB EL : List (Value × Value)} {M : Nat → Prop} {A : Option Addr} {n c : Nat} {b : List UInt8} (key h : List UInt8) (J : BxJ w g k t r1 r2 r3 s a S B L ES EB EL M) (h32 : key.length = 32) (hh : h.length = 32) (hrb : Rd w A n c b) (hnb : n ≤ 100000) :
    Calls Tryd.prog 15 #[.pointer (some ⟨g, 0, none⟩), .agg (key.map cellOf).toArray, .slice A n c, .agg (h.map cellOf).toArray] w fun e w' => e = .returned (.bool (decide (Bx.lookB key b B = some h))) ∧ Below w.heap.size w w' := by
  obtain ⟨vl, ok, hlk, hvl, hres⟩ := J.marked (key := key) (b := b) h32 (by have := hrb.len; omega)
  rw [← hres h]
  obtain ⟨kc, hkc⟩ : ∃ kc, kc = key.map cellOf := ⟨_, rfl⟩
  obtain ⟨hc, hhc⟩ : ∃ kc, kc = h.map cellOf := ⟨_, rfl⟩
  obtain ⟨D, hD⟩ : ∃ D, D = vl.map cellOf := ⟨_, rfl⟩
  obtain ⟨cs, hcs⟩ : ∃ cs, cs = kc ++ [Value.string ⟨b.toArray⟩] := ⟨_, rfl⟩
  rw [show mkKey key b = .agg cs.toArray by rw [hcs, hkc]; rfl, ← hD] at hlk
  have HLK := Lib.hid hlk
  have K32 : kc.length = 32 := by rw [hkc, List.length_map, h32]
  have H32 : hc.length = 32 := by rw [hhc, List.length_map, hh]
  have HBL : Hid (Tryd.prog.built 67 [(0, .agg kc.toArray), (1, .string ⟨b.toArray⟩)] = some cs.toArray) := by unfold Hid; rw [hcs]; exact builtM K32 _
  have IK : Hid ((Tryd.prog.info? 34).map (·.size) = some kc.length) := by unfold Hid; rw [K32]; kernel_rfl
  have IH : Hid ((Tryd.prog.info? 34).map (·.size) = some hc.length) := by unfold Hid; rw [H32]; kernel_rfl
  have hDl : D.length = 32 := by rw [hD, List.length_map, hvl]
  have ID : Hid ((Tryd.prog.info? 34).map (·.size) = some D.length) := by unfold Hid; rw [hDl]; kernel_rfl
  have LD : Hid ((List.replicate 32 (Value.int .u8 0)).length = D.length) := by unfold Hid; rw [hDl]; rfl
  have OD : Hid (∀ v ∈ D, v.oneCell' = true) := by unfold Hid; rw [hD]; exact cells_u8 _
  have EQ : Hid (∀ W, (Op.equalIn 10000 34 (.agg D.toArray) (.agg hc.toArray)).run Tryd.prog W = .ok (sameB vl h) W) := fun W => by rw [hD, hhc]; exact equal30 vl h hvl hh W
  have DL := Lib.hid hDl
  have HBG := Lib.hid J.bg
  have HBK := Lib.hid J.bk
  have hgl := J.bg.lt
  have hkl := J.bk.lt
  have hrl := J.mB.lt
  have HRB := Lib.hid hrb
  rw [← hkc, ← hhc]
  obtain ⟨sb, hsb⟩ : ∃ sb, sb = sameB vl h := ⟨_, rfl⟩
  rw [← hsb] at EQ
  rw [← hsb]
  clear J hrb hkc hhc hcs hD hDl h32 hh K32 H32 hlk hres hvl hsb
  go_enter Tryd.func15, Tryd.ntmps15
  go_upto_region 1 with (fail)
  obtain ⟨w0, hw0⟩ : ∃ w0, w0 = (w.alloc (Obj.cells kc.toArray 34)).alloc (Obj.cells hc.toArray 34) := ⟨_, rfl⟩
  have B4 : Hid (Blk w0 w.heap.size 34 kc) := by unfold Hid; rw [hw0]; exact (Blk.new w _ _).alloc _
  have B6 : Hid (Blk w0 (w.heap.size + 1) 34 hc) := by unfold Hid; rw [hw0]; exact Blk.at_new _ _ _ _ _ rfl (by simp)
  have W0 : Hid (Below w.heap.size w w0) := by unfold Hid; rw [hw0]; exact ((Below.refl _ _).alloc (Nat.le_refl _) _).alloc (by simp) _
  have hs0 : w.heap.size + 2 ≤ w0.heap.size := by rw [hw0]; simp
  change Code.wp _ _ _ _ ((w.alloc (Obj.cells kc.toArray 34)).alloc (Obj.cells hc.toArray 34))
  rw [← hw0]
  clear hw0
  have c0 : w0.cell? ⟨g, 0, none⟩ = some (.pointer (some ⟨k, 0, none⟩)) := (HBG.out.below W0.out hgl).cell 0
  go_upto_region 4 with (fail)
  clear c0
  obtain ⟨q, hq⟩ : ∃ q, q = w.heap.size := ⟨_, rfl⟩
  obtain ⟨q1, hq1⟩ : ∃ q, q = w.heap.size + 1 := ⟨_, rfl⟩
  rw [← hq] at B4
  rw [← hq1] at B6
  rw [← hq1, ← hq]
  have hqa : w.heap.size ≤ q := by omega
  have hqb : w.heap.size ≤ q1 := by omega
  have hqc : q1 < w0.heap.size := B6.out.lt
  clear hq hq1
  refine wp_region_any (by kernel_rfl) ?_
  change wpAny _ _ _ _ _ _ _ (World.drew _)
  replace B4 := Lib.hid B4.out.drew
  replace B6 := Lib.hid B6.out.drew
  replace W0 : Hid (Below w.heap.size w w0.drew) := W0.out.drew
  replace hqc : q1 < w0.drew.heap.size := hqc
  replace hs0 : w.heap.size + 2 ≤ w0.drew.heap.size := hs0
  generalize w0.drew = w2 at *
  have BG := Lib.hid (HBG.out.below W0.out hgl)
  have BK := Lib.hid (HBK.out.below W0.out hkl)
  have RB := Lib.hid (HRB.out.below W0.out)
  refine wpAny_take (i := 0) (oi := ?oi5) (v := .pointer (some ⟨g, 0, none⟩)) ?hi5 (by kernel_rfl) (by kernel_rfl) (by kernel_rfl) ?hQ5 ?hy5 ?rest5
  case hi5 => simp only [List.getElem?_toArray, List.getElem?_cons_succ, List.getElem?_cons_zero]; rfl
  case hQ5 => exact fun _ _ _ h => h
  case hy5 => exact Or.inl ⟨by rfl, by intro w; go_simp⟩
  try simp only [Act.put, List.setIfInBounds_toArray, List.set_cons_zero, List.set_cons_succ]
  refine wpAny_take (i := 1) (oi := ?oi6) (v := .pointer (some ⟨g, 0, none⟩)) ?hi6 (by kernel_rfl) (by kernel_rfl) (by kernel_rfl) ?hQ6 ?hy6 ?rest6
  case hi6 => simp only [List.getElem?_toArray, List.getElem?_cons_succ, List.getElem?_cons_zero]; rfl
  case hQ6 => exact fun _ _ _ h => h
  case hy6 => exact Or.inl ⟨by rfl, by intro w; go_simp⟩
  try simp only [Act.put, List.setIfInBounds_toArray, List.set_cons_zero, List.set_cons_succ]
  refine wpAny_take (i := 2) (oi := ?oi7) (v := .pointer (some ⟨g, 0, none⟩)) ?hi7 (by kernel_rfl) (by kernel_rfl) (by kernel_rfl) ?hQ7 ?hy7 ?rest7
  case hi7 => simp only [List.getElem?_toArray, List.getElem?_cons_succ, List.getElem?_cons_zero]; rfl
  case hQ7 => exact fun _ _ _ h => h
  case hy7 => exact Or.inl ⟨by rfl, by intro w; go_simp⟩
  try simp only [Act.put, List.setIfInBounds_toArray, List.set_cons_zero, List.set_cons_succ]
  refine wpAny_take (i := 8) (oi := ?oi8) (v := .slice A n c) ?hi8 (by kernel_rfl) (by kernel_rfl) (by kernel_rfl) ?hQ8 ?hy8 ?rest8
  case hi8 => simp only [List.getElem?_toArray, List.getElem?_cons_succ, List.getElem?_cons_zero]; rfl
  case hQ8 => exact fun _ _ _ h => h
  case hy8 => exact Or.inl ⟨by rfl, by intro w; go_simp⟩
  try simp only [Act.put, List.setIfInBounds_toArray, List.set_cons_zero, List.set_cons_succ]
  refine phaseL (fun i => if i = 4 then [3] else if i = 5 then [4] else if i = 6 then [5] else if i = 10 then [7, 9] else if i = 11 then [6, 10] else if i = 12 then [11] else if i = 13 then [12] else if i = 14 then [12] else if i = 16 then [15, 13, 3, 4, 5, 6, 7, 9, 10, 11, 12] else []) (fun d a w' => ∃ x25 x26 x27 x28 x29 x31 x32 x33 x21 x34 x35 x9 : Value, a = { tmps := #[.pointer (some ⟨g, 0, none⟩), .agg kc.toArray, .slice A n c, .agg hc.toArray, undef, .pointer (some ⟨q, 0, none⟩), undef, .pointer (some ⟨q1, 0, none⟩), .bool false, x9, undef, undef, .bool false, .pointer (some ⟨g, 0, none⟩), .bool false, .bool true, .pointer (some ⟨g, 0, none⟩), .pointer (some ⟨g, 0, none⟩), .pointer (some ⟨g, 0, none⟩), .pointer (some ⟨k, 0, none⟩), .bool true, x21, .pointer (some ⟨g, 0, none⟩), .pointer (some ⟨g, 0, none⟩), .pointer (some ⟨g, 0, none⟩), x25, x26, x27, x28, x29, .slice A n c, x31, x32, x33, x34, x35, undef, undef, undef, undef, undef, undef, undef, undef, undef, undef, undef, undef, undef], defers := [] } ∧ Hid (Below w2.heap.size w2 w') ∧ (d 3 = true → x25 = .pointer (some ⟨k, 0, none⟩)) ∧ (d 4 = true → x26 = .pointer (some ⟨k, 0, none⟩)) ∧ (d 5 = true → x27 = .pointer (some ⟨k, 2, none⟩)) ∧ (d 6 = true → x28 = .map (some r2)) ∧ (d 7 = true → x29 = .agg kc.toArray) ∧ (d 9 = true → x31 = .string ⟨b.toArray⟩) ∧ (d 10 = true → x32 = .agg cs.toArray) ∧ (d 11 = true → x33 = .tuple #[.agg D.toArray, .bool ok]) ∧ (d 12 = true → x21 = .tuple #[.agg D.toArray, .bool ok]) ∧ (d 13 = true → x34 = .agg D.toArray) ∧ (d 14 = true → x35 = .bool ok) ∧ (d 15 = true → Hid (∃ g2, x9 = .pointer (some ⟨g2, 0, none⟩) ∧ w2.heap.size ≤ g2 ∧ ∃ cs2 : List Value, cs2.length = 32 ∧ Blk w' g2 34 cs2 ∧ (d 16 = true → cs2 = D))) ∧ (d 16 = true → d 15 = true)) [3, 4, 5, 6, 7, 9, 10, 11, 12, 13, 14, 15, 16] ?step9 1 13 [3, 4, 5, 6, 7, 9, 10, 11, 12, 13, 14, 15, 16] _ _ _ rfl (by decide) (fun _ h => h) (Fits.of (by kernel_rfl)) ?init9 ?fin9
  case init9 => refine ⟨_, _, _, _, _, _, _, _, _, _, _, _, rfl, Below.refl _ _, ?_, ?_, ?_, ?_, ?_, ?_, ?_, ?_, ?_, ?_, ?_, ?_, ?_⟩ <;> (intro h; exact absurd h (by decide))
  case step9 =>
    intro i hi d a v9 hI hdi hdeps
    obtain ⟨x25, x26, x27, x28, x29, x31, x32, x33, x21, x34, x35, x9, rfl, BW, h3, h4, h5, h6, h7, h9, h10, h11, h12, h13, h14, h15, h16⟩ := hI
    have hsw := BW.out.size
    simp only [List.mem_cons, List.not_mem_nil, or_false] at hi
    rcases hi with rfl | rfl | rfl | rfl | rfl | rfl | rfl | rfl | rfl | rfl | rfl | rfl | rfl
    · have c0 : v9.cell? ⟨g, 0, none⟩ = some (.pointer (some ⟨k, 0, none⟩)) := (BG.out.below BW.out BG.out.lt).cell 0
      refine wpOp_step (o := ?os10) ?hos10 (fun K hK => ?_)
      case hos10 => simp only [List.getElem?_toArray, List.getElem?_cons_succ, List.getElem?_cons_zero]; rfl
      go_simp
      refine hK _ _ ?_
      clear hK K
      try simp only [Act.put, List.setIfInBounds_toArray, List.set_cons_zero, List.set_cons_succ]
      exact ⟨_, _, _, _, _, _, _, _, _, _, _, _, rfl, BW, fun _ => rfl, fun a => by first | exact h4 (by simpa using a) | rfl, fun a => by first | exact h5 (by simpa using a) | rfl, fun a => by first | exact h6 (by simpa using a) | rfl, fun a => by first | exact h7 (by simpa using a) | rfl, fun a => by first | exact h9 (by simpa using a) | rfl, fun a => by first | exact h10 (by simpa using a) | rfl, fun a => by first | exact h11 (by simpa using a) | rfl, fun a => by first | exact h12 (by simpa using a) | rfl, fun a => by first | exact h13 (by simpa using a) | rfl, fun a => by first | exact h14 (by simpa using a) | rfl, fun a => by obtain ⟨g2, e, hge, cs2, hl2, hb2, hd2⟩ := (h15 (by simpa using a)).out; exact ⟨g2, e, hge, cs2, hl2, hb2, fun b => hd2 (by simpa using b)⟩, fun a => by have := h16 (by simpa using a); simp [this]⟩
    · obtain rfl := h3 (hdeps 3 (by simp))
      refine wpOp_step (o := ?os11) ?hos11 (fun K hK => ?_)
      case hos11 => simp only [List.getElem?_toArray, List.getElem?_cons_succ, List.getElem?_cons_zero]; rfl
      go_simp
      refine hK _ _ ?_
      clear hK K
      try simp only [Act.put, List.setIfInBounds_toArray, List.set_cons_zero, List.set_cons_succ]
      exact ⟨_, _, _, _, _, _, _, _, _, _, _, _, rfl, BW, fun a => by first | exact h3 (by simpa using a) | rfl, fun _ => rfl, fun a => by first | exact h5 (by simpa using a) | rfl, fun a => by first | exact h6 (by simpa using a) | rfl, fun a => by first | exact h7 (by simpa using a) | rfl, fun a => by first | exact h9 (by simpa using a) | rfl, fun a => by first | exact h10 (by simpa using a) | rfl, fun a => by first | exact h11 (by simpa using a) | rfl, fun a => by first | exact h12 (by simpa using a) | rfl, fun a => by first | exact h13 (by simpa using a) | rfl, fun a => by first | exact h14 (by simpa using a) | rfl, fun a => by obtain ⟨g2, e, hge, cs2, hl2, hb2, hd2⟩ := (h15 (by simpa using a)).out; exact ⟨g2, e, hge, cs2, hl2, hb2, fun b => hd2 (by simpa using b)⟩, fun a => by have := h16 (by simpa using a); simp [this]⟩
    · obtain rfl := h4 (hdeps 4 (by simp))
      refine wpOp_step (o := ?os12) ?hos12 (fun K hK => ?_)
      case hos12 => simp only [List.getElem?_toArray, List.getElem?_cons_succ, List.getElem?_cons_zero]; rfl
      go_simp
      refine hK _ _ ?_
      clear hK K
      try simp only [Act.put, List.setIfInBounds_toArray, List.set_cons_zero, List.set_cons_succ]
      exact ⟨_, _, _, _, _, _, _, _, _, _, _, _, rfl, BW, fun a => by first | exact h3 (by simpa using a) | rfl, fun a => by first | exact h4 (by simpa using a) | rfl, fun _ => rfl, fun a => by first | exact h6 (by simpa using a) | rfl, fun a => by first | exact h7 (by simpa using a) | rfl, fun a => by first | exact h9 (by simpa using a) | rfl, fun a => by first | exact h10 (by simpa using a) | rfl, fun a => by first | exact h11 (by simpa using a) | rfl, fun a => by first | exact h12 (by simpa using a) | rfl, fun a => by first | exact h13 (by simpa using a) | rfl, fun a => by first | exact h14 (by simpa using a) | rfl, fun a => by obtain ⟨g2, e, hge, cs2, hl2, hb2, hd2⟩ := (h15 (by simpa using a)).out; exact ⟨g2, e, hge, cs2, hl2, hb2, fun b => hd2 (by simpa using b)⟩, fun a => by have := h16 (by simpa using a); simp [this]⟩
    · obtain rfl := h5 (hdeps 5 (by simp))
      have c0 : v9.cell? ⟨k, 2, none⟩ = some (.map (some r2)) := (BK.out.below BW.out BK.out.lt).cell 2
      refine wpOp_step (o := ?os13) ?hos13 (fun K hK => ?_)
      case hos13 => simp only [List.getElem?_toArray, List.getElem?_cons_succ, List.getElem?_cons_zero]; rfl
      go_simp
      refine hK _ _ ?_
      clear hK K
      try simp only [Act.put, List.setIfInBounds_toArray, List.set_cons_zero, List.set_cons_succ]
      exact ⟨_, _, _, _, _, _, _, _, _, _, _, _, rfl, BW, fun a => by first | exact h3 (by simpa using a) | rfl, fun a => by first | exact h4 (by simpa using a) | rfl, fun a => by first | exact h5 (by simpa using a) | rfl, fun _ => rfl, fun a => by first | exact h7 (by simpa using a) | rfl, fun a => by first | exact h9 (by simpa using a) | rfl, fun a => by first | exact h10 (by simpa using a) | rfl, fun a => by first | exact h11 (by simpa using a) | rfl, fun a => by first | exact h12 (by simpa using a) | rfl, fun a => by first | exact h13 (by simpa using a) | rfl, fun a => by first | exact h14 (by simpa using a) | rfl, fun a => by obtain ⟨g2, e, hge, cs2, hl2, hb2, hd2⟩ := (h15 (by simpa using a)).out; exact ⟨g2, e, hge, cs2, hl2, hb2, fun b => hd2 (by simpa using b)⟩, fun a => by have := h16 (by simpa using a); simp [this]⟩
    · refine wpOp_step (o := ?os14) ?hos14 (fun K hK => ?_)
      case hos14 => simp only [List.getElem?_toArray, List.getElem?_cons_succ, List.getElem?_cons_zero]; rfl
      refine step_loadW rfl 34 (.tmp 5) rfl q 0 rfl kc _ Tryd.underlying34 rfl IK.out (B4.out.below BW.out B4.out.lt).cells (hK _ _ ?_)
      clear hK K
      try simp only [Act.put, List.setIfInBounds_toArray, List.set_cons_zero, List.set_cons_succ]
      exact ⟨_, _, _, _, _, _, _, _, _, _, _, _, rfl, BW, fun a => by first | exact h3 (by simpa using a) | rfl, fun a => by first | exact h4 (by simpa using a) | rfl, fun a => by first | exact h5 (by simpa using a) | rfl, fun a => by first | exact h6 (by simpa using a) | rfl, fun _ => rfl, fun a => by first | exact h9 (by simpa using a) | rfl, fun a => by first | exact h10 (by simpa using a) | rfl, fun a => by first | exact h11 (by simpa using a) | rfl, fun a => by first | exact h12 (by simpa using a) | rfl, fun a => by first | exact h13 (by simpa using a) | rfl, fun a => by first | exact h14 (by simpa using a) | rfl, fun a => by obtain ⟨g2, e, hge, cs2, hl2, hb2, hd2⟩ := (h15 (by simpa using a)).out; exact ⟨g2, e, hge, cs2, hl2, hb2, fun b => hd2 (by simpa using b)⟩, fun a => by have := h16 (by simpa using a); simp [this]⟩
    · have hcv := conv_bytes (RB.out.below BW.out)
      refine wpOp_step (o := ?os15) ?hos15 (fun K hK => ?_)
      case hos15 => simp only [List.getElem?_toArray, List.getElem?_cons_succ, List.getElem?_cons_zero]; rfl
      go_simp
      refine hK _ _ ?_
      clear hK K
      try simp only [Act.put, List.setIfInBounds_toArray, List.set_cons_zero, List.set_cons_succ]
      exact ⟨_, _, _, _, _, _, _, _, _, _, _, _, rfl, BW, fun a => by first | exact h3 (by simpa using a) | rfl, fun a => by first | exact h4 (by simpa using a) | rfl, fun a => by first | exact h5 (by simpa using a) | rfl, fun a => by first | exact h6 (by simpa using a) | rfl, fun a => by first | exact h7 (by simpa using a) | rfl, fun _ => rfl, fun a => by first | exact h10 (by simpa using a) | rfl, fun a => by first | exact h11 (by simpa using a) | rfl, fun a => by first | exact h12 (by simpa using a) | rfl, fun a => by first | exact h13 (by simpa using a) | rfl, fun a => by first | exact h14 (by simpa using a) | rfl, fun a => by obtain ⟨g2, e, hge, cs2, hl2, hb2, hd2⟩ := (h15 (by simpa using a)).out; exact ⟨g2, e, hge, cs2, hl2, hb2, fun b => hd2 (by simpa using b)⟩, fun a => by have := h16 (by simpa using a); simp [this]⟩
    · obtain rfl := h7 (hdeps 7 (by simp))
      obtain rfl := h9 (hdeps 9 (by simp))
      refine wpOp_step (o := ?os16) ?hos16 (fun K hK => ?_)
      case hos16 => simp only [List.getElem?_toArray, List.getElem?_cons_succ, List.getElem?_cons_zero]; rfl
      refine step_build rfl 67 #[(0, .tmp 29), (1, .tmp 31)] rfl cs (by simp only [List.map_toArray, List.map_cons, List.map_nil]; exact HBL.out) (hK _ _ ?_)
      clear hK K
      try simp only [Act.put, List.setIfInBounds_toArray, List.set_cons_zero, List.set_cons_succ]
      exact ⟨_, _, _, _, _, _, _, _, _, _, _, _, rfl, BW, fun a => by first | exact h3 (by simpa using a) | rfl, fun a => by first | exact h4 (by simpa using a) | rfl, fun a => by first | exact h5 (by simpa using a) | rfl, fun a => by first | exact h6 (by simpa using a) | rfl, fun a => by first | exact h7 (by simpa using a) | rfl, fun a => by first | exact h9 (by simpa using a) | rfl, fun _ => rfl, fun a => by first | exact h11 (by simpa using a) | rfl, fun a => by first | exact h12 (by simpa using a) | rfl, fun a => by first | exact h13 (by simpa using a) | rfl, fun a => by first | exact h14 (by simpa using a) | rfl, fun a => by obtain ⟨g2, e, hge, cs2, hl2, hb2, hd2⟩ := (h15 (by simpa using a)).out; exact ⟨g2, e, hge, cs2, hl2, hb2, fun b => hd2 (by simpa using b)⟩, fun a => by have := h16 (by simpa using a); simp [this]⟩
    · obtain rfl := h6 (hdeps 6 (by simp))
      obtain rfl := h10 (hdeps 10 (by simp))
      have hlk := HLK.out v9 ((BW.out.block r2 (by omega)).trans (W0.out.block r2 hrl))
      refine wpOp_step (o := ?os17) ?hos17 (fun K hK => ?_)
      case hos17 => simp only [List.getElem?_toArray, List.getElem?_cons_succ, List.getElem?_cons_zero]; rfl
      go_simp
      refine hK _ _ ?_
      clear hK K
      try simp only [Act.put, List.setIfInBounds_toArray, List.set_cons_zero, List.set_cons_succ]
      exact ⟨_, _, _, _, _, _, _, _, _, _, _, _, rfl, BW, fun a => by first | exact h3 (by simpa using a) | rfl, fun a => by first | exact h4 (by simpa using a) | rfl, fun a => by first | exact h5 (by simpa using a) | rfl, fun a => by first | exact h6 (by simpa using a) | rfl, fun a => by first | exact h7 (by simpa using a) | rfl, fun a => by first | exact h9 (by simpa using a) | rfl, fun a => by first | exact h10 (by simpa using a) | rfl, fun _ => rfl, fun a => by first | exact h12 (by simpa using a) | rfl, fun a => by first | exact h13 (by simpa using a) | rfl, fun a => by first | exact h14 (by simpa using a) | rfl, fun a => by obtain ⟨g2, e, hge, cs2, hl2, hb2, hd2⟩ := (h15 (by simpa using a)).out; exact ⟨g2, e, hge, cs2, hl2, hb2, fun b => hd2 (by simpa using b)⟩, fun a => by have := h16 (by simpa using a); simp [this]⟩
    · obtain rfl := h11 (hdeps 11 (by simp))
      refine wpOp_step (o := ?os18) ?hos18 (fun K hK => ?_)
      case hos18 => simp only [List.getElem?_toArray, List.getElem?_cons_succ, List.getElem?_cons_zero]; rfl
      go_simp
      refine hK _ _ ?_
      clear hK K
      try simp only [Act.put, List.setIfInBounds_toArray, List.set_cons_zero, List.set_cons_succ]
      exact ⟨_, _, _, _, _, _, _, _, _, _, _, _, rfl, BW, fun a => by first | exact h3 (by simpa using a) | rfl, fun a => by first | exact h4 (by simpa using a) | rfl, fun a => by first | exact h5 (by simpa using a) | rfl, fun a => by first | exact h6 (by simpa using a) | rfl, fun a => by first | exact h7 (by simpa using a) | rfl, fun a => by first | exact h9 (by simpa using a) | rfl, fun a => by first | exact h10 (by simpa using a) | rfl, fun a => by first | exact h11 (by simpa using a) | rfl, fun _ => rfl, fun a => by first | exact h13 (by simpa using a) | rfl, fun a => by first | exact h14 (by simpa using a) | rfl, fun a => by obtain ⟨g2, e, hge, cs2, hl2, hb2, hd2⟩ := (h15 (by simpa using a)).out; exact ⟨g2, e, hge, cs2, hl2, hb2, fun b => hd2 (by simpa using b)⟩, fun a => by have := h16 (by simpa using a); simp [this]⟩
    · obtain rfl := h12 (hdeps 12 (by simp))
      refine wpOp_step (o := ?os19) ?hos19 (fun K hK => ?_)
      case hos19 => simp only [List.getElem?_toArray, List.getElem?_cons_succ, List.getElem?_cons_zero]; rfl
      go_simp
      refine hK _ _ ?_
      clear hK K
      try simp only [Act.put, List.setIfInBounds_toArray, List.set_cons_zero, List.set_cons_succ]
      exact ⟨_, _, _, _, _, _, _, _, _, _, _, _, rfl, BW, fun a => by first | exact h3 (by simpa using a) | rfl, fun a => by first | exact h4 (by simpa using a) | rfl, fun a => by first | exact h5 (by simpa using a) | rfl, fun a => by first | exact h6 (by simpa using a) | rfl, fun a => by first | exact h7 (by simpa using a) | rfl, fun a => by first | exact h9 (by simpa using a) | rfl, fun a => by first | exact h10 (by simpa using a) | rfl, fun a => by first | exact h11 (by simpa using a) | rfl, fun a => by first | exact h12 (by simpa using a) | rfl, fun _ => rfl, fun a => by first | exact h14 (by simpa using a) | rfl, fun a => by obtain ⟨g2, e, hge, cs2, hl2, hb2, hd2⟩ := (h15 (by simpa using a)).out; exact ⟨g2, e, hge, cs2, hl2, hb2, fun b => hd2 (by simpa using b)⟩, fun a => by have := h16 (by simpa using a); simp [this]⟩
    · obtain rfl := h12 (hdeps 12 (by simp))
      refine wpOp_step (o := ?os20) ?hos20 (fun K hK => ?_)
      case hos20 => simp only [List.getElem?_toArray, List.getElem?_cons_succ, List.getElem?_cons_zero]; rfl
      go_simp
      refine hK _ _ ?_
      clear hK K
      try simp only [Act.put, List.setIfInBounds_toArray, List.set_cons_zero, List.set_cons_succ]
      exact ⟨_, _, _, _, _, _, _, _, _, _, _, _, rfl, BW, fun a => by first | exact h3 (by simpa using a) | rfl, fun a => by first | exact h4 (by simpa using a) | rfl, fun a => by first | exact h5 (by simpa using a) | rfl, fun a => by first | exact h6 (by simpa using a) | rfl, fun a => by first | exact h7 (by simpa using a) | rfl, fun a => by first | exact h9 (by simpa using a) | rfl, fun a => by first | exact h10 (by simpa using a) | rfl, fun a => by first | exact h11 (by simpa using a) | rfl, fun a => by first | exact h12 (by simpa using a) | rfl, fun a => by first | exact h13 (by simpa using a) | rfl, fun _ => rfl, fun a => by obtain ⟨g2, e, hge, cs2, hl2, hb2, hd2⟩ := (h15 (by simpa using a)).out; exact ⟨g2, e, hge, cs2, hl2, hb2, fun b => hd2 (by simpa using b)⟩, fun a => by have := h16 (by simpa using a); simp [this]⟩
    · have hX := alloc_below v9 (.cells (List.replicate 32 (Value.int .u8 0)).toArray 34)
      refine wpOp_step (o := ?os21) ?hos21 (fun K hK => ?_)
      case hos21 => simp only [List.getElem?_toArray, List.getElem?_cons_succ, List.getElem?_cons_zero]; rfl
      go_simp
      refine hK _ _ ?_
      clear hK K
      try simp only [Act.put, List.setIfInBounds_toArray, List.set_cons_zero, List.set_cons_succ]
      exact ⟨_, _, _, _, _, _, _, _, _, _, _, _, rfl, BW.out.trans (hX.mono hsw), fun a => by first | exact h3 (by simpa using a) | rfl, fun a => by first | exact h4 (by simpa using a) | rfl, fun a => by first | exact h5 (by simpa using a) | rfl, fun a => by first | exact h6 (by simpa using a) | rfl, fun a => by first | exact h7 (by simpa using a) | rfl, fun a => by first | exact h9 (by simpa using a) | rfl, fun a => by first | exact h10 (by simpa using a) | rfl, fun a => by first | exact h11 (by simpa using a) | rfl, fun a => by first | exact h12 (by simpa using a) | rfl, fun a => by first | exact h13 (by simpa using a) | rfl, fun a => by first | exact h14 (by simpa using a) | rfl, fun _ => ⟨_, rfl, hsw, (List.replicate 32 (Value.int .u8 0)), by simp, Blk.at_new _ _ _ _ _ (by rfl) rfl, fun h => absurd (h16 (by simpa using h)) (by rw [hdi]; decide)⟩, fun a => by have := h16 (by simpa using a); simp [this]⟩
    · obtain ⟨g2, rfl, hge, cs2, hl2, hb2, hd2⟩ := (h15 (hdeps 15 (by simp))).out
      obtain rfl := h13 (hdeps 13 (by simp))
      refine wpOp_step (o := ?os22) ?hos22 (fun K hK => ?_)
      case hos22 => simp only [List.getElem?_toArray, List.getElem?_cons_succ, List.getElem?_cons_zero]; rfl
      refine step_storeAll rfl 34 (.tmp 9) (.tmp 34) rfl g2 rfl D rfl 34 cs2 hb2 ID.out (by rw [hl2, DL.out]) OD.out (hK _ _ ?_)
      clear hK K
      try simp only [Act.put, List.setIfInBounds_toArray, List.set_cons_zero, List.set_cons_succ]
      exact ⟨_, _, _, _, _, _, _, _, _, _, _, _, rfl, below_setRow BW.out hge _, fun a => by first | exact h3 (by simpa using a) | rfl, fun a => by first | exact h4 (by simpa using a) | rfl, fun a => by first | exact h5 (by simpa using a) | rfl, fun a => by first | exact h6 (by simpa using a) | rfl, fun a => by first | exact h7 (by simpa using a) | rfl, fun a => by first | exact h9 (by simpa using a) | rfl, fun a => by first | exact h10 (by simpa using a) | rfl, fun a => by first | exact h11 (by simpa using a) | rfl, fun a => by first | exact h12 (by simpa using a) | rfl, fun a => by first | exact h13 (by simpa using a) | rfl, fun a => by first | exact h14 (by simpa using a) | rfl, fun _ => ⟨g2, rfl, hge, D, DL.out, hb2.row, fun _ => rfl⟩, fun _ => by simp [hdeps 15 (by simp)]⟩
  case fin9 =>
    intro a v9 hI
    obtain ⟨x25, x26, x27, x28, x29, x31, x32, x33, x21, x34, x35, x9, rfl, BW, h3, h4, h5, h6, h7, h9, h10, h11, h12, h13, h14, h15, h16⟩ := hI
    obtain rfl := h3 (by decide)
    obtain rfl := h4 (by decide)
    obtain rfl := h5 (by decide)
    obtain rfl := h6 (by decide)
    obtain rfl := h7 (by decide)
    obtain rfl := h9 (by decide)
    obtain rfl := h10 (by decide)
    obtain rfl := h11 (by decide)
    obtain rfl := h12 (by decide)
    obtain rfl := h13 (by decide)
    obtain rfl := h14 (by decide)
    obtain ⟨g2, rfl, hge, cs2, hl2, hb2, hd2⟩ := (h15 (by decide)).out
    obtain rfl := hd2 (by decide)
    have W3 := Lib.hid (W0.out.trans (BW.out.mono W0.out.size))
    have C9 := Lib.hid hb2
    have C7 := Lib.hid (B6.out.below BW.out B6.out.lt)
    clear h3 h4 h5 h6 h7 h9 h10 h11 h12 h13 h14 h15 h16 hd2 hb2 hl2 BW W0 B4 B6 BG BK RB HLK
    try dsimp only
    refine wpAny_take (i := 17) (oi := ?oi23) (v := .bool ok) ?hi23 (by kernel_rfl) (by kernel_rfl) (by kernel_rfl) ?hQ23 ?hy23 ?rest23
    case hi23 => simp only [List.getElem?_toArray, List.getElem?_cons_succ, List.getElem?_cons_zero]; rfl
    case hQ23 => exact fun _ _ _ h => h
    case hy23 => exact Or.inl ⟨by rfl, by intro w; go_simp⟩
    try simp only [Act.put, List.setIfInBounds_toArray, List.set_cons_zero, List.set_cons_succ]
    refine wpAny_done (by kernel_rfl) ?_ _
    cases ok with
    | false =>
      go_wp2_with fail
      go_ret
      exact ⟨rfl, W3.out⟩
    | true =>
      have hee := EQ.out
      go_wp2_with (first
        | (with_reducible refine load_when rfl 34 (.tmp 9) rfl g2 0 rfl cs2 _ Tryd.underlying34 rfl ID.out C9.out.cells ?_)
        | (with_reducible refine load_when rfl 34 (.tmp 7) rfl q1 0 rfl hc _ Tryd.underlying34 rfl IH.out C7.out.cells ?_))
      go_ret
      exact ⟨by simp, W3.out⟩

/-- Package box answers as the document says. -/
theorem boxOk : BoxOk BxAt where
  lt h hm := bxAt_lt h hm
  keep h hs hb := bxAt_keep h hs hb
  good h := bxAt_good h
  newR w p := bnewR w p
  newI hT := bnewI hT
  newN w := bnewN w
  newO w m p h0 h1 := bnewO w m p h0 h1
  slR key num _ hP hk h0 h1 ha hb hn hn' := bslR key num hP.1 hk h0 h1 ha hb hn hn'
  slI key num hG hM hP ha hk h0 h1 hra hrb hoa hob hn' := by
    obtain ⟨k, t, r1, r2, r3, ES, EB, EL, J⟩ := hP
    exact bslI key num J hG hM ha hk h0 h1 hra hrb hoa hob hn'
  slN key num A A' n c n' c' _ hk hn := bslN key num A A' n c n' c' hk hn
  slL key num A A' n c n' c' hP hk h1 h2 := by
    obtain ⟨k, t, r1, r2, r3, ES, EB, EL, J⟩ := hP
    exact bslL key num A A' n c n' c' J hk h1 h2
  slZ w key num A A' n c n' c' hk := bslZ w key num A A' n c n' c' hk
  opR key num _ hP hk h0 h1 ha hb hn hn' := bopR key num hP.1 hk h0 h1 ha hb hn hn'
  opI key num _ hP hk h0 h1 hra hrb hn hn' := by
    obtain ⟨k, t, r1, r2, r3, ES, EB, EL, J⟩ := hP
    exact bopI key num J hk h0 h1 hra hrb hn hn'
  opN key num A A' n c n' c' _ hk hn := bopN key num A A' n c n' c' hk hn
  opZ w key num A A' n c n' c' hk := bopZ w key num A A' n c n' c' hk
  mkR key hG hP hk hr hn := bmkR key hG hP.1 hk hr hn
  mkI key hG hM hP ha hk hr _ hn := by
    obtain ⟨k, t, r1, r2, r3, ES, EB, EL, J⟩ := hP
    exact bmkI key J hG hM ha hk hr hn
  mkZ w key A n c hk := bmkZ w key A n c hk
  isR key h hG hP hk hh hr hn := bisR key h hG hP.1 hk hh hr hn
  isI key h _ hP hk hh hr hn := by
    obtain ⟨k, t, r1, r2, r3, ES, EB, EL, J⟩ := hP
    exact bisI key h J hk hh hr hn
  isZ w key h A n c _ _ := bisZ w key h A n c
  lbR key name hG hP hk hn := blbR key hG hP.1 hk hn
  lbI key name hG hM hP ha hk hn := by
    obtain ⟨k, t, r1, r2, r3, ES, EB, EL, J⟩ := hP
    exact blbI key J hG hM ha hk hn
  lbZ w key name hk := blbZ w key name hk
end Go.Proofs.YtpbfeobifpmjbaaDoor
