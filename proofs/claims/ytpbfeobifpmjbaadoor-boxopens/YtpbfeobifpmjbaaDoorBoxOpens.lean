/- The walk of the law BoxOpens: what was sealed is opened by just its key, number and what stands beside it. -/
import Derived.Test.YtpbfeobifpmjbaaDoorBegun8
namespace Go.Proofs.YtpbfeobifpmjbaaDoor.boxOpens
set_option linter.unusedVariables false
set_option linter.unusedSimpArgs false
set_option maxRecDepth 100000
open Go.RowKit
/-- An append as one step of a region that draws, whatever is appended. -/
theorem step_onto {ops : Array Oper} {o : Oper} {a : Act} {K : Act → World → Prop} {Q : Exit → Act → World → Prop} {E : Prop} {wr : World} {B : Nat} {v : Value} {l : List UInt8} (hgd : Region.wanted o (yielded ops a.tmps) = true) (s x : Operand)
    (ho : o.op = .call { callee := .builtin .append, args := #[s, x], argTypes := #[28, 28] }) (hs : a.eval s = v) {A : Option Addr} {m c : Nat} {news : List UInt8} (hx : a.eval x = .slice A m c) (hr : Rd wr A m c news) (hown : Ow wr B v l)
    (hlen : l.length + m ≤ 140737488355328) (hB : B ≤ wr.heap.size) (h : ∀ v' w', Ow w' B v' (l ++ news) → wr.grownBy w' v.ownBlock → K (a.put o.dst v') w') : if Region.wanted o (yielded ops a.tmps) = true then o.wp Tryd.prog a wr K Q else E := by
  rw [if_pos hgd]
  obtain ⟨v', w', hrun, h2, h3⟩ := run_onto_any hown o.type hr hlen hB
  unfold Oper.wp execOp
  simp only [ho, resolve, invoke, builtin, Sem.run_bind, Sem.run_pure, Result.andThen_ok, List.map_toArray, List.map_cons, List.map_nil, hs, hx, hrun]
  exact h v' w' h2 h3
/-- A key of one byte and noughts; of two. -/
def key1 (x : UInt8) : List UInt8 := x :: List.replicate 31 0
theorem key1_length (x : UInt8) : (key1 x).length = 32 := by simp [key1]
def key2 (x y : UInt8) : List UInt8 := x :: y :: List.replicate 30 0
theorem key2_length (x y : UInt8) : (key2 x y).length = 32 := by simp [key2]
theorem key_ne (x : UInt8) : key1 x ≠ key2 x 1 := by
  intro h
  simp [key1, key2, List.replicate_succ] at h
theorem more_ne (l : List UInt8) (x : UInt8) : l ≠ l ++ [x] := by
  intro h
  have := congrArg List.length h
  simp at this


set_option maxRecDepth 100000 in
set_option maxHeartbeats 16000000 in
theorem walkN {P : BxP} (hB : BoxOk P) (ideal : Bool) (x : UInt8) (n how : Int) (y : UInt8) {A1 A2 : Option Addr} {n1 c1 n2 c2 : Nat} {l1 l2 : List UInt8} (w : World) (hg : Gl w) (hn1 : -9223372036854775808 ≤ n) (hn2 : n ≤ 9223372036854775807) (hr1 : Rd w A1 n1 c1 l1) (hr2 : Rd w A2 n2 c2 l2) (hbad : n < 0 ∨ n = 9223372036854775807) :
    Calls Tryd.prog 4 #[.bool ideal, .int .u8 (x.toNat : Int), .int .i64 n, .slice A1 n1 c1, .slice A2 n2 c2, .int .i64 how, .int .u8 (y.toNat : Int)] w fun e w' => e = .returned (.bool true) ∧ Below w.heap.size w w' := by
  have HG := Lib.hid hg
  have HB := Lib.hid hB
  have hsz := hg.size
  have HR1 := Lib.hid hr1
  have HR2 := Lib.hid hr2
  clear hg hB hr1 hr2
  obtain ⟨ad, had⟩ : ∃ l, l = l1.take 20 := ⟨_, rfl⟩
  obtain ⟨bb, hbb⟩ : ∃ l, l = l2.take 60 := ⟨_, rfl⟩
  have CS1 := Lib.hid (fun W (h : Rd W A1 n1 c1 l1) => short_any 20 h (by omega))
  have CS2 := Lib.hid (fun W (h : Rd W A2 n2 c2 l2) => short_any 60 h (by omega))
  rw [← had] at CS1
  rw [← hbb] at CS2
  have L1 : Hid (ad.length ≤ 20) := by unfold Hid; rw [had, List.length_take]; omega
  have L2 : Hid (bb.length ≤ 60) := by unfold Hid; rw [hbb, List.length_take]; omega
  clear had hbb
  rcases hbad with hbad | rfl
  · have d0 : decide (n < 0) = true := decide_eq_true hbad
    cases ideal with
    | false =>
      go_enter Tryd.func4, Tryd.ntmps4
      go_wp2_with fail
      refine (begun8_any HB.out HG.out).mono ?_
      rintro e w1 ⟨rfl, hX⟩
      have hs1 := hX.size
      have W1 := Lib.hid hX
      replace HR1 := Lib.hid (HR1.out.below hX)
      replace HR2 := Lib.hid (HR2.out.below hX)
      clear hX
      go_wp2_with fail
      refine (CS1.out w1 HR1.out).mono ?_
      rintro e w2 ⟨A3, n3, c3, rfl, hR, rfl⟩
      clear hR
      go_wp2_with fail
      refine (CS2.out _ HR2.out).mono ?_
      rintro e w2 ⟨A4, n4, c4, rfl, hR, rfl⟩
      clear hR HR1 HR2 CS1 CS2
      go_wp2_with fail
      go_ret
      exact ⟨rfl, W1.out⟩
    | true =>
      go_enter Tryd.func4, Tryd.ntmps4
      go_wp2_with fail
      refine (begun8_any HB.out HG.out).mono ?_
      rintro e w1 ⟨rfl, hX⟩
      have hs1 := hX.size
      have W1 := Lib.hid hX
      replace HR1 := Lib.hid (HR1.out.below hX)
      replace HR2 := Lib.hid (HR2.out.below hX)
      clear hX
      go_wp2_with fail
      refine (CS1.out w1 HR1.out).mono ?_
      rintro e w2 ⟨A3, n3, c3, rfl, hR, rfl⟩
      clear hR
      go_wp2_with fail
      refine (CS2.out _ HR2.out).mono ?_
      rintro e w2 ⟨A4, n4, c4, rfl, hR, rfl⟩
      clear hR HR1 HR2 CS1 CS2
      go_wp2_with fail
      go_ret
      exact ⟨rfl, W1.out⟩
  · cases ideal with
    | false =>
      go_enter Tryd.func4, Tryd.ntmps4
      go_wp2_with fail
      refine (begun8_any HB.out HG.out).mono ?_
      rintro e w1 ⟨rfl, hX⟩
      have hs1 := hX.size
      have W1 := Lib.hid hX
      replace HR1 := Lib.hid (HR1.out.below hX)
      replace HR2 := Lib.hid (HR2.out.below hX)
      clear hX
      go_wp2_with fail
      refine (CS1.out w1 HR1.out).mono ?_
      rintro e w2 ⟨A3, n3, c3, rfl, hR, rfl⟩
      clear hR
      go_wp2_with fail
      refine (CS2.out _ HR2.out).mono ?_
      rintro e w2 ⟨A4, n4, c4, rfl, hR, rfl⟩
      clear hR HR1 HR2 CS1 CS2
      go_wp2_with fail
      go_ret
      exact ⟨rfl, W1.out⟩
    | true =>
      go_enter Tryd.func4, Tryd.ntmps4
      go_wp2_with fail
      refine (begun8_any HB.out HG.out).mono ?_
      rintro e w1 ⟨rfl, hX⟩
      have hs1 := hX.size
      have W1 := Lib.hid hX
      replace HR1 := Lib.hid (HR1.out.below hX)
      replace HR2 := Lib.hid (HR2.out.below hX)
      clear hX
      go_wp2_with fail
      refine (CS1.out w1 HR1.out).mono ?_
      rintro e w2 ⟨A3, n3, c3, rfl, hR, rfl⟩
      clear hR
      go_wp2_with fail
      refine (CS2.out _ HR2.out).mono ?_
      rintro e w2 ⟨A4, n4, c4, rfl, hR, rfl⟩
      clear hR HR1 HR2 CS1 CS2
      go_wp2_with fail
      go_ret
      exact ⟨rfl, W1.out⟩

set_option maxRecDepth 100000 in
set_option maxHeartbeats 16000000 in
theorem walkR {P : BxP} (hB : BoxOk P) (ideal : Bool) (x : UInt8) (n how : Int) (y : UInt8) {A1 A2 : Option Addr} {n1 c1 n2 c2 : Nat} {l1 l2 : List UInt8} (w : World) (hg : Gl w) (hn1 : -9223372036854775808 ≤ n) (hn2 : n ≤ 9223372036854775807) (hr1 : Rd w A1 n1 c1 l1) (hr2 : Rd w A2 n2 c2 l2) (h0 : 0 ≤ n) (hmx : n ≠ 9223372036854775807) :
    Calls Tryd.prog 4 #[.bool false, .int .u8 (x.toNat : Int), .int .i64 n, .slice A1 n1 c1, .slice A2 n2 c2, .int .i64 how, .int .u8 (y.toNat : Int)] w fun e w' => e = .returned (.bool true) ∧ Below w.heap.size w w' := by
  have HG := Lib.hid hg
  have HB := Lib.hid hB
  have hsz := hg.size
  have HR1 := Lib.hid hr1
  have HR2 := Lib.hid hr2
  clear hg hB hr1 hr2
  obtain ⟨ad, had⟩ : ∃ l, l = l1.take 20 := ⟨_, rfl⟩
  obtain ⟨bb, hbb⟩ : ∃ l, l = l2.take 60 := ⟨_, rfl⟩
  have CS1 := Lib.hid (fun W (h : Rd W A1 n1 c1 l1) => short_any 20 h (by omega))
  have CS2 := Lib.hid (fun W (h : Rd W A2 n2 c2 l2) => short_any 60 h (by omega))
  rw [← had] at CS1
  rw [← hbb] at CS2
  have L1 : Hid (ad.length ≤ 20) := by unfold Hid; rw [had, List.length_take]; omega
  have L2 : Hid (bb.length ≤ 60) := by unfold Hid; rw [hbb, List.length_take]; omega
  clear had hbb
  have d0 : decide (n < 0) = false := decide_eq_false (by omega)
  have d1 : (n == 9223372036854775807) = false := by simpa using hmx
  obtain ⟨ke, hke⟩ : ∃ k, k = key1 x := ⟨_, rfl⟩
  have K32 : Hid (ke.length = 32) := by unfold Hid; rw [hke]; exact key1_length x
  obtain ⟨kc, hkc⟩ : ∃ c, c = ke.map cellOf := ⟨_, rfl⟩
  have IK : Hid ((Tryd.prog.info? 34).map (·.size) = some kc.length) := by unfold Hid; rw [hkc, List.length_map, K32.out]; kernel_rfl
  have LK : Hid ((List.replicate 32 (Value.int .u8 0)).length = kc.length) := by unfold Hid; rw [hkc, List.length_map, K32.out]; rfl
  have OKC : Hid (∀ v ∈ kc, v.oneCell' = true) := by unfold Hid; rw [hkc]; exact cells_u8 _
  have BKC : Hid (Tryd.prog.built 34 [(0, .int .u8 (x.toNat : Int))] = some kc.toArray) := by unfold Hid; rw [hkc, hke]; kernel_rfl
  obtain ⟨lc, hlc⟩ : ∃ l, l = Ae.sealed ke (Bx.nonce n) ad bb := ⟨_, rfl⟩
  obtain ⟨nc, hnc⟩ : ∃ k, k = lc.length := ⟨_, rfl⟩
  have LC : Hid (lc.length = nc) := hnc.symm
  have hnc2 : nc ≤ 4000 := by have := L2.out; rw [hnc, hlc, Ae.sealed_length]; omega
  have CSE : Hid (∀ (W : World) (g : Nat) (M : Nat → Prop) (A A' : Option Addr) (n3 c3 n4 c4 : Nat), Gl W → P W g .real M → Rd W A n3 c3 ad → Rd W A' n4 c4 bb → Calls Tryd.prog 12 #[.pointer (some ⟨g, 0, none⟩), .agg kc.toArray, .int .i64 n, .slice A n3 c3, .slice A' n4 c4] W (RetSR W lc)) := fun W g M A A' n3 c3 n4 c4 h1 h2 h3 h4 => by
    have e3 := h3.len
    have e4 := h4.len
    have := L1.out
    have := L2.out
    rw [hkc, hlc]
    exact HB.out.slR ke n h1 h2 K32.out (by omega) (by omega) h3 h4 (by omega) (by omega)
  have COP : Hid (∀ (W : World) (g : Nat) (M : Nat → Prop) (A A' : Option Addr) (n3 c3 c4 : Nat), Gl W → P W g .real M → Rd W A n3 c3 ad → Rd W A' nc c4 lc → Calls Tryd.prog 13 #[.pointer (some ⟨g, 0, none⟩), .agg kc.toArray, .int .i64 n, .slice A n3 c3, .slice A' nc c4] W (RetP W (bb, true))) := fun W g M A A' n3 c3 c4 h1 h2 h3 h4 => by
    have e3 := h3.len
    have := L1.out
    have := HB.out.opR ke n h1 h2 K32.out (by omega) (by omega) h3 h4 (by omega) (by omega)
    rw [hlc, opened_sealed, Ae.opens_sealed] at this
    rw [hkc]
    exact this
  clear hke hkc hlc hnc hmx
  go_enter Tryd.func4, Tryd.ntmps4
  go_wp2_with fail
  refine (begun8_any HB.out HG.out).mono ?_
  rintro e w1 ⟨rfl, hX⟩
  have hs1 := hX.size
  have W1 := Lib.hid hX
  replace HR1 := Lib.hid (HR1.out.below hX)
  replace HR2 := Lib.hid (HR2.out.below hX)
  clear hX
  go_wp2_with fail
  refine (CS1.out w1 HR1.out).mono ?_
  rintro e w2 ⟨A3, n3, c3, rfl, hR, rfl⟩
  have R3 := Lib.hid hR
  clear hR
  go_wp2_with fail
  refine (CS2.out _ HR2.out).mono ?_
  rintro e w2 ⟨A4, n4, c4, rfl, hR, rfl⟩
  have R4 := Lib.hid hR
  clear hR HR1 HR2 CS1 CS2
  go_wp2_with fail
  refine (tnew_any n _ (by omega) (by omega)).mono ?_
  rintro e w4 ⟨t, rfl, ht, hT, hX⟩
  replace W1 := Lib.hid (W1.out.trans (hX.mono W1.out.size))
  replace R3 := Lib.hid (R3.out.below hX)
  replace R4 := Lib.hid (R4.out.below hX)
  clear ht hT hX
  go_wp2_with fail
  refine (HB.out.newR _ _).mono ?_
  rintro e w5 ⟨gx, Mx, rfl, hM, hP, hX⟩
  replace W1 := Lib.hid (W1.out.trans (hX.mono W1.out.size))
  replace R3 := Lib.hid (R3.out.below hX)
  replace R4 := Lib.hid (R4.out.below hX)
  have PX := Lib.hid hP
  clear hM hP hX
  go_upto_region 11 with (fail)
  refine wp_region_lit ?_
  refine move_law rfl (.tmp 1) rfl ?_
  simp only [Act.put, List.setIfInBounds_toArray, List.set_cons_zero, List.set_cons_succ]
  refine build_law rfl 34 #[(0, .tmp 40)] rfl kc (by simp only [List.map_toArray, List.map_cons, List.map_nil]; exact BKC.out) ?_
  simp only [Act.put, List.setIfInBounds_toArray, List.set_cons_zero, List.set_cons_succ]
  go_upto_region 12 with (first
    | ((with_reducible refine storeGen_law rfl 34 (.tmp 18) (.tmp 41) rfl w5.heap.size rfl kc rfl 34 (List.replicate 32 (.int .u8 0)) IK.out LK.out OKC.out w5.heap.size w5 ?_ ?_ (Nat.le_refl _) ?_)
       · exact Blk.at_new _ _ 34 _ _ (by rfl) rfl
       · exact (Below.refl _ _).alloc (Nat.le_refl _) _
       intro w6 BLK XK))
  obtain ⟨gk, hgk⟩ : ∃ g, g = w5.heap.size := ⟨_, rfl⟩
  rw [← hgk] at BLK
  rw [← hgk]
  have hgk6 : w5.heap.size ≤ gk := by omega
  have hgk7 : gk < w6.heap.size := BLK.out.lt
  have hsK := XK.out.size
  have KB := Lib.hid BLK.out
  clear hgk BLK
  replace W1 := Lib.hid (W1.out.trans (XK.out.mono W1.out.size))
  replace PX := Lib.hid (HB.out.below PX.out XK.out)
  replace R3 := Lib.hid (R3.out.below XK.out)
  replace R4 := Lib.hid (R4.out.below XK.out)
  clear XK
  go_wp2_with (first | (with_reducible refine load_law rfl 34 (.tmp 18) rfl gk 0 rfl kc _ Tryd.underlying34 rfl IK.out KB.out.cells ?_))
  refine (CSE.out w6 gx Mx _ _ _ _ _ _ (HG.out.below W1.out hsz) PX.out R3.out R4.out).mono ?_
  rintro e w7 ⟨A5, c5, rfl, hR, hX, hF⟩
  rw [LC.out] at *
  have RC := Lib.hid hR
  replace W1 := Lib.hid (W1.out.trans (hX.mono W1.out.size))
  replace PX := Lib.hid (HB.out.below PX.out hX)
  replace R3 := Lib.hid (R3.out.below hX)
  replace R4 := Lib.hid (R4.out.below hX)
  replace KB := Lib.hid (KB.out.below hX KB.out.lt)
  clear hR hX hF
  go_wp2_with (first | (with_reducible refine load_law rfl 34 (.tmp 18) rfl gk 0 rfl kc _ Tryd.underlying34 rfl IK.out KB.out.cells ?_))
  refine (COP.out w7 gx Mx _ _ _ _ _ (HG.out.below W1.out hsz) PX.out R3.out RC.out).mono ?_
  rintro e w8 ⟨A6, n6, c6, rfl, hR, hX, hF⟩
  have hcv1 := conv_bytes hR
  replace W1 := Lib.hid (W1.out.trans (hX.mono W1.out.size))
  replace R4 := Lib.hid (R4.out.below hX)
  have hcv2 := conv_bytes R4.out
  have hss := str_same bb
  clear hR hX hF COP CSE
  go_wp2_with fail
  go_ret
  exact ⟨rfl, W1.out⟩

set_option maxRecDepth 100000 in
set_option maxHeartbeats 16000000 in
theorem walkI {P : BxP} (hB : BoxOk P) (ideal : Bool) (x : UInt8) (n how : Int) (y : UInt8) {A1 A2 : Option Addr} {n1 c1 n2 c2 : Nat} {l1 l2 : List UInt8} (w : World) (hg : Gl w) (hn1 : -9223372036854775808 ≤ n) (hn2 : n ≤ 9223372036854775807) (hr1 : Rd w A1 n1 c1 l1) (hr2 : Rd w A2 n2 c2 l2) (h0 : 0 ≤ n) (hmx : n ≠ 9223372036854775807) :
    Calls Tryd.prog 4 #[.bool true, .int .u8 (x.toNat : Int), .int .i64 n, .slice A1 n1 c1, .slice A2 n2 c2, .int .i64 how, .int .u8 (y.toNat : Int)] w fun e w' => e = .returned (.bool true) ∧ Below w.heap.size w w' := by
  have HG := Lib.hid hg
  have HB := Lib.hid hB
  have hsz := hg.size
  have HR1 := Lib.hid hr1
  have HR2 := Lib.hid hr2
  clear hg hB hr1 hr2
  obtain ⟨ad, had⟩ : ∃ l, l = l1.take 20 := ⟨_, rfl⟩
  obtain ⟨bb, hbb⟩ : ∃ l, l = l2.take 60 := ⟨_, rfl⟩
  have CS1 := Lib.hid (fun W (h : Rd W A1 n1 c1 l1) => short_any 20 h (by omega))
  have CS2 := Lib.hid (fun W (h : Rd W A2 n2 c2 l2) => short_any 60 h (by omega))
  rw [← had] at CS1
  rw [← hbb] at CS2
  have L1 : Hid (ad.length ≤ 20) := by unfold Hid; rw [had, List.length_take]; omega
  have L2 : Hid (bb.length ≤ 60) := by unfold Hid; rw [hbb, List.length_take]; omega
  clear had hbb
  have d0 : decide (n < 0) = false := decide_eq_false (by omega)
  have d1 : (n == 9223372036854775807) = false := by simpa using hmx
  obtain ⟨ke, hke⟩ : ∃ k, k = key1 x := ⟨_, rfl⟩
  have K32 : Hid (ke.length = 32) := by unfold Hid; rw [hke]; exact key1_length x
  obtain ⟨kc, hkc⟩ : ∃ c, c = ke.map cellOf := ⟨_, rfl⟩
  have IK : Hid ((Tryd.prog.info? 34).map (·.size) = some kc.length) := by unfold Hid; rw [hkc, List.length_map, K32.out]; kernel_rfl
  have LK : Hid ((List.replicate 32 (Value.int .u8 0)).length = kc.length) := by unfold Hid; rw [hkc, List.length_map, K32.out]; rfl
  have OKC : Hid (∀ v ∈ kc, v.oneCell' = true) := by unfold Hid; rw [hkc]; exact cells_u8 _
  have BKC : Hid (Tryd.prog.built 34 [(0, .int .u8 (x.toNat : Int))] = some kc.toArray) := by unfold Hid; rw [hkc, hke]; kernel_rfl
  obtain ⟨k2, hk2⟩ : ∃ k, k = key2 x 1 := ⟨_, rfl⟩
  have K232 : Hid (k2.length = 32) := by unfold Hid; rw [hk2]; exact key2_length x 1
  obtain ⟨kc2, hkc2⟩ : ∃ c, c = k2.map cellOf := ⟨_, rfl⟩
  have BKC2 : Hid (Tryd.prog.built 34 [(0, .int .u8 (x.toNat : Int)), (1, .int .u8 1)] = some kc2.toArray) := by unfold Hid; rw [hkc2, hk2]; kernel_rfl
  have KNE : Hid (ke ≠ k2) := by unfold Hid; rw [hke, hk2]; exact key_ne x
  obtain ⟨nb, hnb⟩ : ∃ k, k = bb.length := ⟨_, rfl⟩
  have LB : Hid (bb.length = nb) := hnb.symm
  obtain ⟨lc, hlc⟩ : ∃ l, l = Tap.tape n 0 (nb + 16) := ⟨_, rfl⟩
  obtain ⟨nc, hnc⟩ : ∃ k, k = nb + 16 := ⟨_, rfl⟩
  have LC : Hid (lc.length = nc) := by unfold Hid; rw [hlc, Tap.tape_length, hnc]
  have hnb2 : nb ≤ 60 := by have := L2.out; omega
  have hnc2 : nc ≤ 76 := by omega
  obtain ⟨S1, hS1⟩ : ∃ S, S = [Bx.SNote.mk ke n ad bb lc] := ⟨_, rfl⟩
  have CSE : Hid (∀ (W : World) (g : Nat) (M : Nat → Prop) (A A' : Option Addr) (n3 c3 n4 c4 : Nat), Gl W → (∀ b, M b → 2 ≤ b) → P W g (.ideal n 0 [] [] []) M → Rd W A n3 c3 ad → Rd W A' n4 c4 bb → Off M A n3 → Off M A' n4 → Calls Tryd.prog 12 #[.pointer (some ⟨g, 0, none⟩), .agg kc.toArray, .int .i64 n, .slice A n3 c3, .slice A' n4 c4] W fun e w' => ∃ A c M', e = .returned (.slice A nc c) ∧ Rd w' A nc c lc ∧ P w' g (.ideal n nc S1 [] []) M' ∧ Fr M W w' ∧ (∀ b, M' b → M b ∨ W.heap.size ≤ b)) := fun W g M A A' n3 c3 n4 c4 h1 h0' h2 h3 h4 h5 h6 => by
    have e4 := h4.len
    obtain rfl : n4 = nb := by rw [← e4]; exact LB.out
    rw [hkc, hS1, hlc]
    refine (HB.out.slI ke n h1 h0' h2 (by omega) K32.out (by omega) (by omega) h3 h4 h5 h6 (by omega)).mono ?_
    rintro e w' ⟨A, c, M', he, hR, hP, hF, hM', _⟩
    rw [Tap.tape_length] at he hR
    rw [← hnc] at he hR
    refine ⟨A, c, M', he, ?_, ?_, hF, hM'⟩
    · rw [hnc] at hR ⊢
      exact hR
    · rw [Nat.zero_add, ← hnc] at hP
      rw [hnc] at hP ⊢
      exact hP
  have COP : Hid (∀ (W : World) (g : Nat) (M : Nat → Prop) (a : Nat) (A A' : Option Addr) (n3 c3 n4 c4 : Nat), Gl W → P W g (.ideal n a S1 [] []) M → Rd W A n3 c3 ad → Rd W A' n4 c4 lc → Calls Tryd.prog 13 #[.pointer (some ⟨g, 0, none⟩), .agg kc.toArray, .int .i64 (n), .slice A n3 c3, .slice A' n4 c4] W (RetP W (bb, true))) := fun W g M a A A' n3 c3 n4 c4 h1 h2 h3 h4 => by
    have e3 := h3.len
    have e4 := h4.len
    have := L1.out
    have := L2.out
    have := LC.out
    try rw [List.length_append, List.length_singleton] at e3
    try rw [List.length_append, List.length_singleton] at e4
    have := HB.out.opI ke (n) h1 h2 K32.out (by omega) (by omega) h3 h4 (by omega) (by omega)
    rw [show Bx.openBy ke (n) ad lc S1 = (bb, true) by rw [hS1]; simp [Bx.openBy, Bx.lookS]] at this
    rw [hkc]
    exact this
  have CO0 : Hid (∀ (W : World) (g : Nat) (M : Nat → Prop) (a : Nat) (A A' : Option Addr) (n3 c3 n4 c4 : Nat), Gl W → P W g (.ideal n a S1 [] []) M → Rd W A n3 c3 ad → Rd W A' n4 c4 lc → Calls Tryd.prog 13 #[.pointer (some ⟨g, 0, none⟩), .agg kc2.toArray, .int .i64 (n), .slice A n3 c3, .slice A' n4 c4] W (RetP W ([], false))) := fun W g M a A A' n3 c3 n4 c4 h1 h2 h3 h4 => by
    have e3 := h3.len
    have e4 := h4.len
    have := L1.out
    have := L2.out
    have := LC.out
    try rw [List.length_append, List.length_singleton] at e3
    try rw [List.length_append, List.length_singleton] at e4
    have := HB.out.opI k2 (n) h1 h2 K232.out (by omega) (by omega) h3 h4 (by omega) (by omega)
    rw [show Bx.openBy k2 (n) ad lc S1 = ([], false) by rw [hS1]; simp [Bx.openBy, Bx.lookS, KNE.out]] at this
    rw [hkc2]
    exact this
  have CO1 : Hid (∀ (W : World) (g : Nat) (M : Nat → Prop) (a : Nat) (A A' : Option Addr) (n3 c3 n4 c4 : Nat), Gl W → P W g (.ideal n a S1 [] []) M → Rd W A n3 c3 ad → Rd W A' n4 c4 lc → Calls Tryd.prog 13 #[.pointer (some ⟨g, 0, none⟩), .agg kc.toArray, .int .i64 (n + 1), .slice A n3 c3, .slice A' n4 c4] W (RetP W ([], false))) := fun W g M a A A' n3 c3 n4 c4 h1 h2 h3 h4 => by
    have e3 := h3.len
    have e4 := h4.len
    have := L1.out
    have := L2.out
    have := LC.out
    try rw [List.length_append, List.length_singleton] at e3
    try rw [List.length_append, List.length_singleton] at e4
    have := HB.out.opI ke (n + 1) h1 h2 K32.out (by omega) (by omega) h3 h4 (by omega) (by omega)
    rw [show Bx.openBy ke (n + 1) ad lc S1 = ([], false) by rw [hS1]; unfold Bx.openBy Bx.lookS; rw [if_neg (fun h => by have h2 : n = n + 1 := h.2.1; omega)]; rfl] at this
    rw [hkc]
    exact this
  have CO2 : Hid (∀ (W : World) (g : Nat) (M : Nat → Prop) (a : Nat) (A A' : Option Addr) (n3 c3 n4 c4 : Nat), Gl W → P W g (.ideal n a S1 [] []) M → Rd W A n3 c3 (ad ++ [y]) → Rd W A' n4 c4 lc → Calls Tryd.prog 13 #[.pointer (some ⟨g, 0, none⟩), .agg kc.toArray, .int .i64 (n), .slice A n3 c3, .slice A' n4 c4] W (RetP W ([], false))) := fun W g M a A A' n3 c3 n4 c4 h1 h2 h3 h4 => by
    have e3 := h3.len
    have e4 := h4.len
    have := L1.out
    have := L2.out
    have := LC.out
    try rw [List.length_append, List.length_singleton] at e3
    try rw [List.length_append, List.length_singleton] at e4
    have := HB.out.opI ke (n) h1 h2 K32.out (by omega) (by omega) h3 h4 (by omega) (by omega)
    rw [show Bx.openBy ke (n) (ad ++ [y]) lc S1 = ([], false) by rw [hS1]; simp [Bx.openBy, Bx.lookS]] at this
    rw [hkc]
    exact this
  have CO3 : Hid (∀ (W : World) (g : Nat) (M : Nat → Prop) (a : Nat) (A A' : Option Addr) (n3 c3 n4 c4 : Nat), Gl W → P W g (.ideal n a S1 [] []) M → Rd W A n3 c3 ad → Rd W A' n4 c4 (lc ++ [y]) → Calls Tryd.prog 13 #[.pointer (some ⟨g, 0, none⟩), .agg kc.toArray, .int .i64 (n), .slice A n3 c3, .slice A' n4 c4] W (RetP W ([], false))) := fun W g M a A A' n3 c3 n4 c4 h1 h2 h3 h4 => by
    have e3 := h3.len
    have e4 := h4.len
    have := L1.out
    have := L2.out
    have := LC.out
    try rw [List.length_append, List.length_singleton] at e3
    try rw [List.length_append, List.length_singleton] at e4
    have := HB.out.opI ke (n) h1 h2 K32.out (by omega) (by omega) h3 h4 (by omega) (by omega)
    rw [show Bx.openBy ke (n) ad (lc ++ [y]) S1 = ([], false) by rw [hS1]; simp [Bx.openBy, Bx.lookS]] at this
    rw [hkc]
    exact this
  obtain ⟨na1, hna1⟩ : ∃ k, (ad ++ [y]).length = k := ⟨_, rfl⟩
  have LA1 := Lib.hid hna1
  obtain ⟨nc1, hnc1⟩ : ∃ k, (lc ++ [y]).length = k := ⟨_, rfl⟩
  have LC1 := Lib.hid hnc1
  obtain ⟨q, hq⟩ : ∃ q, bits .and .i64 how 3 = q := ⟨_, rfl⟩
  have hwr : IntKind.i64.wrap (n + 1) = n + 1 := by rw [IntKind.wrap_i64]; omega
  clear hke hkc hlc hnc hmx hk2 hkc2 hnb hS1 hna1 hnc1
  go_enter Tryd.func4, Tryd.ntmps4
  go_wp2_with fail
  refine (begun8_any HB.out HG.out).mono ?_
  rintro e w1 ⟨rfl, hX⟩
  have hs1 := hX.size
  have W1 := Lib.hid hX
  replace HR1 := Lib.hid (HR1.out.below hX)
  replace HR2 := Lib.hid (HR2.out.below hX)
  clear hX
  go_wp2_with fail
  refine (CS1.out w1 HR1.out).mono ?_
  rintro e w2 ⟨A3, n3, c3, rfl, hR, rfl⟩
  have R3 := Lib.hid hR
  clear hR
  go_wp2_with fail
  refine (CS2.out _ HR2.out).mono ?_
  rintro e w2 ⟨A4, n4, c4, rfl, hR, rfl⟩
  have R4 := Lib.hid hR
  clear hR HR1 HR2 CS1 CS2
  have O3 : Hid (∀ a : Addr, A3 = some a → 0 < n3 → a.block < w1.heap.size) := fun a ha hp => R3.out.in_ hp a ha
  have O4 : Hid (∀ a : Addr, A4 = some a → 0 < n4 → a.block < w1.heap.size) := fun a ha hp => R4.out.in_ hp a ha
  go_wp2_with fail
  refine (tnew_any n _ (by omega) (by omega)).mono ?_
  rintro e w4 ⟨t, rfl, ht, hT, hX⟩
  have hs4 := hX.size
  replace W1 := Lib.hid (W1.out.trans (hX.mono W1.out.size))
  replace R3 := Lib.hid (R3.out.below hX)
  replace R4 := Lib.hid (R4.out.below hX)
  have T3 := Lib.hid hT
  clear hT hX
  go_wp2_with fail
  refine (HB.out.newI T3.out).mono ?_
  rintro e w5 ⟨gx, Mx, rfl, hM, hP, hX⟩
  replace W1 := Lib.hid (W1.out.trans (hX.mono W1.out.size))
  replace R3 := Lib.hid (R3.out.below hX)
  replace R4 := Lib.hid (R4.out.below hX)
  have MI : Hid (∀ b, Mx b → w1.heap.size ≤ b) := fun b hb => by
    rcases hM b hb with h | h
    · omega
    · omega
  have PX := Lib.hid hP
  have MLT : Hid (∀ b, Mx b → b < w5.heap.size) := fun b hb => HB.out.lt PX.out hb
  clear hM hP hX T3
  go_upto_region 11 with (fail)
  refine wp_region_lit ?_
  refine move_law rfl (.tmp 1) rfl ?_
  simp only [Act.put, List.setIfInBounds_toArray, List.set_cons_zero, List.set_cons_succ]
  refine build_law rfl 34 #[(0, .tmp 40)] rfl kc (by simp only [List.map_toArray, List.map_cons, List.map_nil]; exact BKC.out) ?_
  simp only [Act.put, List.setIfInBounds_toArray, List.set_cons_zero, List.set_cons_succ]
  go_upto_region 12 with (first
    | ((with_reducible refine storeGen_law rfl 34 (.tmp 18) (.tmp 41) rfl w5.heap.size rfl kc rfl 34 (List.replicate 32 (.int .u8 0)) IK.out LK.out OKC.out w5.heap.size w5 ?_ ?_ (Nat.le_refl _) ?_)
       · exact Blk.at_new _ _ 34 _ _ (by rfl) rfl
       · exact (Below.refl _ _).alloc (Nat.le_refl _) _
       intro w6 BLK XK))
  obtain ⟨gk, hgk⟩ : ∃ g, g = w5.heap.size := ⟨_, rfl⟩
  rw [← hgk] at BLK
  rw [← hgk]
  have hgk6 : w5.heap.size ≤ gk := by omega
  have hgk7 : gk < w6.heap.size := BLK.out.lt
  have hsK := XK.out.size
  have KB := Lib.hid BLK.out
  clear hgk BLK
  replace W1 := Lib.hid (W1.out.trans (XK.out.mono W1.out.size))
  replace PX := Lib.hid (HB.out.below PX.out XK.out)
  replace R3 := Lib.hid (R3.out.below XK.out)
  replace R4 := Lib.hid (R4.out.below XK.out)
  clear XK
  go_wp2_with (first | (with_reducible refine load_law rfl 34 (.tmp 18) rfl gk 0 rfl kc _ Tryd.underlying34 rfl IK.out KB.out.cells ?_))
  refine (CSE.out w6 gx Mx _ _ _ _ _ _ (HG.out.below W1.out hsz) (fun b hb => by have := MI.out b hb; omega) PX.out R3.out R4.out (fun a ha hp hm => by have h1 := O3.out a ha hp; have h2 := MI.out _ hm; omega) (fun a ha hp hm => by have h1 := O4.out a ha hp; have h2 := MI.out _ hm; omega)).mono ?_
  rintro e w7 ⟨A5, c5, M7, rfl, hR, hP, hF, hM7⟩
  replace R3 := Lib.hid (hF.rd R3.out (fun a ha hp hm => by have h1 := O3.out a ha hp; have h2 := MI.out _ hm; omega))
  replace R4 := Lib.hid (hF.rd R4.out (fun a ha hp hm => by have h1 := O4.out a ha hp; have h2 := MI.out _ hm; omega))
  replace W1 := Lib.hid (hF.below W1.out (fun b hb => by have := MI.out b hb; omega) W1.out.size)
  replace KB := Lib.hid (hF.blk KB.out (fun hm => by have := MLT.out _ hm; omega))
  replace PX := Lib.hid hP
  have RC := Lib.hid hR
  clear hR hF hP hM7 MI MLT O3 O4 CSE
  go_wp2_with (first | (with_reducible refine load_law rfl 34 (.tmp 18) rfl gk 0 rfl kc _ Tryd.underlying34 rfl IK.out KB.out.cells ?_))
  refine (COP.out w7 gx M7 _ _ _ _ _ _ _ (HG.out.below W1.out hsz) PX.out R3.out RC.out).mono ?_
  rintro e w8 ⟨A6, n6, c6, rfl, hR, hX, hF⟩
  have hcv1 := conv_bytes hR
  replace W1 := Lib.hid (W1.out.trans (hX.mono W1.out.size))
  replace PX := Lib.hid (HB.out.below PX.out hX)
  replace R3 := Lib.hid (R3.out.below hX)
  replace R4 := Lib.hid (R4.out.below hX)
  replace RC := Lib.hid (RC.out.below hX)
  replace KB := Lib.hid (KB.out.below hX KB.out.lt)
  have hcv2 := conv_bytes R4.out
  have hss := str_same bb
  clear hR hX hF COP
  by_cases q0 : q = 0
  · have dq : (q == 0) = true := by simp [q0]
    go_upto_region 21 with (fail)
    refine wp_region_lit ?_
    refine move_law rfl (.tmp 17) rfl ?_
    simp only [Act.put, List.setIfInBounds_toArray, List.set_cons_zero, List.set_cons_succ]
    refine move_law rfl (.tmp 1) rfl ?_
    simp only [Act.put, List.setIfInBounds_toArray, List.set_cons_zero, List.set_cons_succ]
    refine build_law rfl 34 #[(0, .tmp 87), (1, .const (.int .u8 1))] rfl kc2 (by simp only [List.map_toArray, List.map_cons, List.map_nil]; exact BKC2.out) ?_
    simp only [Act.put, List.setIfInBounds_toArray, List.set_cons_zero, List.set_cons_succ]
    go_wp2_with fail
    clear hcv1 hcv2 hss
    refine (CO0.out w8 gx M7 _ _ _ _ _ _ _ (HG.out.below W1.out hsz) PX.out R3.out RC.out).mono ?_
    rintro e w9 ⟨A7, n7, c7, rfl, hR, hX, hF⟩
    replace W1 := Lib.hid (W1.out.trans (hX.mono W1.out.size))
    clear hR hX hF
    go_wp2_with fail
    go_ret
    exact ⟨rfl, W1.out⟩
  have dq0 : (q == 0) = false := by simpa using q0
  by_cases q1 : q = 1
  · have dq : (q == 1) = true := by simp [q1]
    go_wp2_with (first | (with_reducible refine load_law rfl 34 (.tmp 18) rfl gk 0 rfl kc _ Tryd.underlying34 rfl IK.out KB.out.cells ?_))
    clear hcv1 hcv2 hss
    refine (CO1.out w8 gx M7 _ _ _ _ _ _ _ (HG.out.below W1.out hsz) PX.out R3.out RC.out).mono ?_
    rintro e w9 ⟨A7, n7, c7, rfl, hR, hX, hF⟩
    replace W1 := Lib.hid (W1.out.trans (hX.mono W1.out.size))
    clear hR hX hF
    go_wp2_with fail
    go_ret
    exact ⟨rfl, W1.out⟩
  have dq1 : (q == 1) = false := by simpa using q1
  by_cases q2 : q = 2
  · have dq : (q == 2) = true := by simp [q2]
    clear q2
    go_upto_region 25 with (fail)
    clear hcv1 hcv2 hss
    refine wp_region_any (by kernel_rfl) ?_
    change wpAny _ _ _ _ _ _ _ (World.drew _)
    replace W1 := Lib.hid W1.out.drew
    replace R3 := Lib.hid R3.out.drew
    replace RC := Lib.hid RC.out.drew
    replace KB := Lib.hid KB.out.drew
    replace PX : Hid (P w8.drew gx (.ideal n nc S1 [] []) M7) := HB.out.keep PX.out (Nat.le_refl _) (fun _ _ => rfl)
    generalize w8.drew = w9 at *
    have e3 := R3.out.len
    have hL1 := L1.out
    have hLC := LC.out
    refine wpAny_take (i := 0) (oi := ?oi1) (v := .pointer (some ⟨gx, 0, none⟩)) ?hi1 (by kernel_rfl) (by kernel_rfl) (by kernel_rfl) ?hQ1 ?hy1 ?rest1
    case hi1 => simp only [List.getElem?_toArray, List.getElem?_cons_succ, List.getElem?_cons_zero]; rfl
    case hQ1 => exact fun _ _ _ h => h
    case hy1 => exact Or.inl ⟨by rfl, by intro w; go_simp⟩
    try simp only [Act.put, List.setIfInBounds_toArray, List.set_cons_zero, List.set_cons_succ]
    refine wpAny_take (i := 2) (oi := ?oi2) (v := .int .i64 n) ?hi2 (by kernel_rfl) (by kernel_rfl) (by kernel_rfl) ?hQ2 ?hy2 ?rest2
    case hi2 => simp only [List.getElem?_toArray, List.getElem?_cons_succ, List.getElem?_cons_zero]; rfl
    case hQ2 => exact fun _ _ _ h => h
    case hy2 => exact Or.inl ⟨by rfl, by intro w; go_simp⟩
    try simp only [Act.put, List.setIfInBounds_toArray, List.set_cons_zero, List.set_cons_succ]
    refine wpAny_take (i := 3) (oi := ?oi3) (v := .slice A3 n3 c3) ?hi3 (by kernel_rfl) (by kernel_rfl) (by kernel_rfl) ?hQ3 ?hy3 ?rest3
    case hi3 => simp only [List.getElem?_toArray, List.getElem?_cons_succ, List.getElem?_cons_zero]; rfl
    case hQ3 => exact fun _ _ _ h => h
    case hy3 => exact Or.inl ⟨by rfl, by intro w; go_simp⟩
    try simp only [Act.put, List.setIfInBounds_toArray, List.set_cons_zero, List.set_cons_succ]
    refine wpAny_take (i := 5) (oi := ?oi4) (v := .int .u8 (y.toNat : Int)) ?hi4 (by kernel_rfl) (by kernel_rfl) (by kernel_rfl) ?hQ4 ?hy4 ?rest4
    case hi4 => simp only [List.getElem?_toArray, List.getElem?_cons_succ, List.getElem?_cons_zero]; rfl
    case hQ4 => exact fun _ _ _ h => h
    case hy4 => exact Or.inl ⟨by rfl, by intro w; go_simp⟩
    try simp only [Act.put, List.setIfInBounds_toArray, List.set_cons_zero, List.set_cons_succ]
    refine wpAny_take (i := 8) (oi := ?oi5) (v := .slice A5 nc c5) ?hi5 (by kernel_rfl) (by kernel_rfl) (by kernel_rfl) ?hQ5 ?hy5 ?rest5
    case hi5 => simp only [List.getElem?_toArray, List.getElem?_cons_succ, List.getElem?_cons_zero]; rfl
    case hQ5 => exact fun _ _ _ h => h
    case hy5 => exact Or.inl ⟨by rfl, by intro w; go_simp⟩
    try simp only [Act.put, List.setIfInBounds_toArray, List.set_cons_zero, List.set_cons_succ]
    refine phaseL (fun i => if i = 7 then [4, 6] else []) (fun d a w' => ∃ x111 x114 x116 x117 : Value, a = { tmps := #[.bool true, .int .u8 (x.toNat : Int), .int .i64 n, .slice A3 n3 c3, .slice A4 n4 c4, .int .i64 how, .int .u8 (y.toNat : Int), undef, undef, undef, undef, undef, undef, undef, .bool false, .bool true, .int .i64 1, .pointer (some ⟨gx, 0, none⟩), .pointer (some ⟨gk, 0, none⟩), .slice A5 nc c5, .slice A6 n6 c6, .bool true, .bool true, .bool true, .bool false, .bool true, .slice A1 n1 c1, .slice A3 n3 c3, .slice A2 n2 c2, .slice A4 n4 c4, .int .i64 n, .bool false, .bool false, .int .i64 n, .bool false, .bool false, .int .i64 1, .int .i64 n, .pointer (some ⟨t, 0, none⟩), .pointer (some ⟨gx, 0, none⟩), .int .u8 (x.toNat : Int), .agg kc.toArray, .pointer (some ⟨gx, 0, none⟩), .agg kc.toArray, .int .i64 n, .slice A3 n3 c3, .slice A4 n4 c4, .slice A5 nc c5, .tuple #[.slice A6 n6 c6, .bool true], .pointer (some ⟨gx, 0, none⟩), .agg kc.toArray, .int .i64 n, .slice A3 n3 c3, .slice A5 nc c5, .tuple #[.slice A6 n6 c6, .bool true], .slice A6 n6 c6, .bool true, .bool true, .bool false, .bool false, .slice A6 n6 c6, .string ⟨bb.toArray⟩, .slice A4 n4 c4, .string ⟨bb.toArray⟩, .bool false, .bool false, .bool true, .bool false, .int .i64 how, .int .i64 q, undef, undef, undef, undef, undef, undef, undef, undef, undef, undef, undef, undef, undef, .bool false, .bool false, undef, undef, undef, undef, undef, undef, undef, undef, undef, undef, .bool false, .bool false, undef, undef, undef, undef, undef, undef, undef, undef, undef, undef, .bool true, .bool true, undef, .pointer (some ⟨gx, 0, none⟩), x111, .int .i64 n, .slice A3 n3 c3, x114, .int .u8 (y.toNat : Int), x116, x117, .slice A5 nc c5, undef, undef, undef, undef, undef], defers := [] } ∧ Hid (Below w9.heap.size w9 w') ∧ (d 1 = true → x111 = .agg kc.toArray) ∧ (d 4 = true → Hid (d 7 = false → Ow w' w9.heap.size x114 ad)) ∧ (d 6 = true → Hid (d 7 = false → Lt w' w9.heap.size x116 [y])) ∧ (d 7 = true → Hid (Nw w' w9.heap.size x117 (ad ++ [y])))) [1, 4, 6, 7] ?step6 5 4 [1, 4, 6, 7] _ _ _ rfl (by decide) (fun _ h => h) (Fits.of (by kernel_rfl)) ?init6 ?fin6
    case init6 => refine ⟨_, _, _, _, rfl, Below.refl _ _, ?_, ?_, ?_, ?_⟩ <;> (intro h; exact absurd h (by decide))
    case step6 =>
      intro i hi d a v6 hI hdi hdeps
      obtain ⟨x111, x114, x116, x117, rfl, BW, h1, h4, h6, h7⟩ := hI
      have hsw := BW.out.size
      simp only [List.mem_cons, List.not_mem_nil, or_false] at hi
      rcases hi with rfl | rfl | rfl | rfl
      · refine wpOp_step (o := ?os7) ?hos7 (fun K hK => ?_)
        case hos7 => simp only [List.getElem?_toArray, List.getElem?_cons_succ, List.getElem?_cons_zero]; rfl
        refine step_loadW rfl 34 (.tmp 18) rfl gk 0 rfl kc _ Tryd.underlying34 rfl IK.out (KB.out.below BW.out KB.out.lt).cells (hK _ _ ?_)
        clear hK K
        try simp only [Act.put, List.setIfInBounds_toArray, List.set_cons_zero, List.set_cons_succ]
        exact ⟨_, _, _, _, rfl, BW, fun _ => rfl, fun a => fun h => (h4 (by simpa using a)).out (by simpa using h), fun a => fun h => (h6 (by simpa using a)).out (by simpa using h), fun a => h7 (by simpa using a)⟩
      · refine wpOp_step (o := ?os8) ?hos8 (fun K hK => ?_)
        case hos8 => simp only [List.getElem?_toArray, List.getElem?_cons_succ, List.getElem?_cons_zero]; rfl
        refine step_onto rfl (.const (.slice none 0 0)) (.tmp 113) rfl rfl rfl (R3.out.below BW.out) (Ow.empty v6 w9.heap.size) (by rw [List.length_nil]; omega) hsw ?_
        intro av u6 hO hgr
        have hX : Below v6.heap.size v6 u6 := ⟨hgr.os, hgr.tape, hgr.output, hgr.size, fun i hi => hgr.block i hi (fun e => by cases e)⟩
        refine hK _ _ ?_
        clear hK K
        try simp only [Act.put, List.setIfInBounds_toArray, List.set_cons_zero, List.set_cons_succ]
        exact ⟨_, _, _, _, rfl, BW.out.trans (hX.mono hsw), fun a => by first | exact h1 (by simpa using a) | rfl, fun _ => fun _ => by simpa using hO, fun a => fun h => ((h6 (by simpa using a)).out (by simpa using h)).below hX, fun a => (h7 (by simpa using a)).out.below hX⟩
      · have hX := alloc_below v6 (.cells #[.int .u8 (y.toNat : Int)] 5)
        refine wpOp_step (o := ?os9) ?hos9 (fun K hK => ?_)
        case hos9 => simp only [List.getElem?_toArray, List.getElem?_cons_succ, List.getElem?_cons_zero]; rfl
        go_simp
        refine hK _ _ ?_
        clear hK K
        try simp only [Act.put, List.setIfInBounds_toArray, List.set_cons_zero, List.set_cons_succ]
        exact ⟨_, _, _, _, rfl, BW.out.trans (hX.mono hsw), fun a => by first | exact h1 (by simpa using a) | rfl, fun a => fun h => ((h4 (by simpa using a)).out (by simpa using h)).keep hX, fun _ => fun _ => Lt.new _ _ _ _ _ (by rfl) rfl hsw, fun a => (h7 (by simpa using a)).out.below hX⟩
      · have hOw := (h4 (hdeps 4 (by simp))).out hdi
        obtain ⟨gq, rfl, hgq, hgl, hRq⟩ := ((h6 (hdeps 6 (by simp))).out hdi).rd (k := 1) rfl (by omega)
        refine wpOp_step (o := ?os10) ?hos10 (fun K hK => ?_)
        case hos10 => simp only [List.getElem?_toArray, List.getElem?_cons_succ, List.getElem?_cons_zero]; rfl
        refine step_onto rfl (.tmp 114) (.tmp 116) rfl rfl rfl hRq hOw (by omega) hsw ?_
        intro av u6 hO hgr
        refine hK _ _ ?_
        clear hK K
        try simp only [Act.put, List.setIfInBounds_toArray, List.set_cons_zero, List.set_cons_succ]
        exact ⟨_, _, _, _, rfl, BW.out.grown hgr hsw (fun k hk => (hOw.lt_ k hk).1), fun a => by first | exact h1 (by simpa using a) | rfl, fun _ => fun h => absurd h (by simp), fun _ => fun h => absurd h (by simp), fun _ => by obtain ⟨AZ, cZ, e, hR, hN⟩ := hO.value; exact ⟨AZ, cZ, e, hR, fun z hz h0 => by obtain ⟨gz, e2, hz2⟩ := hN h0; rw [hz] at e2; injection e2 with e2; rw [e2]; exact hz2⟩⟩
    case fin6 =>
      intro a v6 hI
      obtain ⟨x111, x114, x116, x117, rfl, BW, h1, h4, h6, h7⟩ := hI
      obtain rfl := h1 (by decide)
      obtain ⟨A8, c8, rfl, hR8, _⟩ := (h7 (by decide)).out.rd LA1.out
      have R8 := Lib.hid hR8
      replace W1 := Lib.hid (W1.out.trans (BW.out.mono W1.out.size))
      replace PX := Lib.hid (HB.out.below PX.out BW.out)
      replace R3 := Lib.hid (R3.out.below BW.out)
      replace RC := Lib.hid (RC.out.below BW.out)
      clear h1 h4 h6 h7 hR8 BW
      try dsimp only
      refine wpAny_ready (rs := [9]) (by kernel_rfl) (by simp) ?_
      refine AllReady.cons (o := ?p11) ?q11 (fun K hK => ?_) AllReady.nil
      case q11 => simp only [List.getElem?_toArray, List.getElem?_cons_succ, List.getElem?_cons_zero]; rfl
      go_simp
      refine (CO2.out _ gx M7 _ _ _ _ _ _ _ (HG.out.below W1.out hsz) PX.out R8.out RC.out).mono ?_
      rintro e w10 ⟨A7, n7, c7, rfl, hR, hX, hF⟩
      refine hK _ _ ?_
      clear hK K
      try simp only [Act.put, List.setIfInBounds_toArray, List.set_cons_zero, List.set_cons_succ]
      replace W1 := Lib.hid (W1.out.trans (hX.mono W1.out.size))
      clear hR hX hF
      refine wpAny_take (i := 10) (oi := ?oi12) (v := .tuple #[.slice A7 n7 c7, .bool false]) ?hi12 (by kernel_rfl) (by kernel_rfl) (by kernel_rfl) ?hQ12 ?hy12 ?rest12
      case hi12 => simp only [List.getElem?_toArray, List.getElem?_cons_succ, List.getElem?_cons_zero]; rfl
      case hQ12 => exact fun _ _ _ h => h
      case hy12 => exact Or.inl ⟨by rfl, by intro w; go_simp⟩
      try simp only [Act.put, List.setIfInBounds_toArray, List.set_cons_zero, List.set_cons_succ]
      refine wpAny_take (i := 11) (oi := ?oi13) (v := .slice A7 n7 c7) ?hi13 (by kernel_rfl) (by kernel_rfl) (by kernel_rfl) ?hQ13 ?hy13 ?rest13
      case hi13 => simp only [List.getElem?_toArray, List.getElem?_cons_succ, List.getElem?_cons_zero]; rfl
      case hQ13 => exact fun _ _ _ h => h
      case hy13 => exact Or.inl ⟨by rfl, by intro w; go_simp⟩
      try simp only [Act.put, List.setIfInBounds_toArray, List.set_cons_zero, List.set_cons_succ]
      refine wpAny_take (i := 12) (oi := ?oi14) (v := .bool false) ?hi14 (by kernel_rfl) (by kernel_rfl) (by kernel_rfl) ?hQ14 ?hy14 ?rest14
      case hi14 => simp only [List.getElem?_toArray, List.getElem?_cons_succ, List.getElem?_cons_zero]; rfl
      case hQ14 => exact fun _ _ _ h => h
      case hy14 => exact Or.inl ⟨by rfl, by intro w; go_simp⟩
      try simp only [Act.put, List.setIfInBounds_toArray, List.set_cons_zero, List.set_cons_succ]
      refine wpAny_take (i := 13) (oi := ?oi15) (v := .bool false) ?hi15 (by kernel_rfl) (by kernel_rfl) (by kernel_rfl) ?hQ15 ?hy15 ?rest15
      case hi15 => simp only [List.getElem?_toArray, List.getElem?_cons_succ, List.getElem?_cons_zero]; rfl
      case hQ15 => exact fun _ _ _ h => h
      case hy15 => exact Or.inl ⟨by rfl, by intro w; go_simp⟩
      try simp only [Act.put, List.setIfInBounds_toArray, List.set_cons_zero, List.set_cons_succ]
      refine wpAny_done (by kernel_rfl) ?_ _
      go_wp2_with fail
      go_ret
      exact ⟨rfl, W1.out⟩
  have dq : (q == 2) = false := by simpa using q2
  go_upto_region 19 with (fail)
  clear hcv1 hcv2 hss
  refine wp_region_any (by kernel_rfl) ?_
  change wpAny _ _ _ _ _ _ _ (World.drew _)
  replace W1 := Lib.hid W1.out.drew
  replace R3 := Lib.hid R3.out.drew
  replace RC := Lib.hid RC.out.drew
  replace KB := Lib.hid KB.out.drew
  replace PX : Hid (P w8.drew gx (.ideal n nc S1 [] []) M7) := HB.out.keep PX.out (Nat.le_refl _) (fun _ _ => rfl)
  generalize w8.drew = w9 at *
  have e3 := R3.out.len
  have hL1 := L1.out
  have hLC := LC.out
  refine wpAny_take (i := 0) (oi := ?oi16) (v := .pointer (some ⟨gx, 0, none⟩)) ?hi16 (by kernel_rfl) (by kernel_rfl) (by kernel_rfl) ?hQ16 ?hy16 ?rest16
  case hi16 => simp only [List.getElem?_toArray, List.getElem?_cons_succ, List.getElem?_cons_zero]; rfl
  case hQ16 => exact fun _ _ _ h => h
  case hy16 => exact Or.inl ⟨by rfl, by intro w; go_simp⟩
  try simp only [Act.put, List.setIfInBounds_toArray, List.set_cons_zero, List.set_cons_succ]
  refine wpAny_take (i := 2) (oi := ?oi17) (v := .int .i64 n) ?hi17 (by kernel_rfl) (by kernel_rfl) (by kernel_rfl) ?hQ17 ?hy17 ?rest17
  case hi17 => simp only [List.getElem?_toArray, List.getElem?_cons_succ, List.getElem?_cons_zero]; rfl
  case hQ17 => exact fun _ _ _ h => h
  case hy17 => exact Or.inl ⟨by rfl, by intro w; go_simp⟩
  try simp only [Act.put, List.setIfInBounds_toArray, List.set_cons_zero, List.set_cons_succ]
  refine wpAny_take (i := 3) (oi := ?oi18) (v := .slice A3 n3 c3) ?hi18 (by kernel_rfl) (by kernel_rfl) (by kernel_rfl) ?hQ18 ?hy18 ?rest18
  case hi18 => simp only [List.getElem?_toArray, List.getElem?_cons_succ, List.getElem?_cons_zero]; rfl
  case hQ18 => exact fun _ _ _ h => h
  case hy18 => exact Or.inl ⟨by rfl, by intro w; go_simp⟩
  try simp only [Act.put, List.setIfInBounds_toArray, List.set_cons_zero, List.set_cons_succ]
  refine wpAny_take (i := 4) (oi := ?oi19) (v := .slice A5 nc c5) ?hi19 (by kernel_rfl) (by kernel_rfl) (by kernel_rfl) ?hQ19 ?hy19 ?rest19
  case hi19 => simp only [List.getElem?_toArray, List.getElem?_cons_succ, List.getElem?_cons_zero]; rfl
  case hQ19 => exact fun _ _ _ h => h
  case hy19 => exact Or.inl ⟨by rfl, by intro w; go_simp⟩
  try simp only [Act.put, List.setIfInBounds_toArray, List.set_cons_zero, List.set_cons_succ]
  refine wpAny_take (i := 6) (oi := ?oi20) (v := .int .u8 (y.toNat : Int)) ?hi20 (by kernel_rfl) (by kernel_rfl) (by kernel_rfl) ?hQ20 ?hy20 ?rest20
  case hi20 => simp only [List.getElem?_toArray, List.getElem?_cons_succ, List.getElem?_cons_zero]; rfl
  case hQ20 => exact fun _ _ _ h => h
  case hy20 => exact Or.inl ⟨by rfl, by intro w; go_simp⟩
  try simp only [Act.put, List.setIfInBounds_toArray, List.set_cons_zero, List.set_cons_succ]
  refine phaseL (fun i => if i = 8 then [5, 7] else []) (fun d a w' => ∃ x72 x76 x78 x79 : Value, a = { tmps := #[.bool true, .int .u8 (x.toNat : Int), .int .i64 n, .slice A3 n3 c3, .slice A4 n4 c4, .int .i64 how, .int .u8 (y.toNat : Int), undef, undef, undef, undef, undef, undef, undef, .bool false, .bool true, .int .i64 1, .pointer (some ⟨gx, 0, none⟩), .pointer (some ⟨gk, 0, none⟩), .slice A5 nc c5, .slice A6 n6 c6, .bool true, .bool true, .bool true, .bool false, .bool true, .slice A1 n1 c1, .slice A3 n3 c3, .slice A2 n2 c2, .slice A4 n4 c4, .int .i64 n, .bool false, .bool false, .int .i64 n, .bool false, .bool false, .int .i64 1, .int .i64 n, .pointer (some ⟨t, 0, none⟩), .pointer (some ⟨gx, 0, none⟩), .int .u8 (x.toNat : Int), .agg kc.toArray, .pointer (some ⟨gx, 0, none⟩), .agg kc.toArray, .int .i64 n, .slice A3 n3 c3, .slice A4 n4 c4, .slice A5 nc c5, .tuple #[.slice A6 n6 c6, .bool true], .pointer (some ⟨gx, 0, none⟩), .agg kc.toArray, .int .i64 n, .slice A3 n3 c3, .slice A5 nc c5, .tuple #[.slice A6 n6 c6, .bool true], .slice A6 n6 c6, .bool true, .bool true, .bool false, .bool false, .slice A6 n6 c6, .string ⟨bb.toArray⟩, .slice A4 n4 c4, .string ⟨bb.toArray⟩, .bool false, .bool false, .bool true, .bool false, .int .i64 how, .int .i64 q, undef, .pointer (some ⟨gx, 0, none⟩), x72, .int .i64 n, .slice A3 n3 c3, .slice A5 nc c5, x76, .int .u8 (y.toNat : Int), x78, x79, undef, undef, undef, .bool false, .bool false, undef, undef, undef, undef, undef, undef, undef, undef, undef, undef, .bool false, .bool false, undef, undef, undef, undef, undef, undef, undef, undef, undef, undef, .bool false, .bool false, undef, undef, undef, undef, undef, undef, undef, undef, undef, undef, undef, undef, undef, undef, undef], defers := [] } ∧ Hid (Below w9.heap.size w9 w') ∧ (d 1 = true → x72 = .agg kc.toArray) ∧ (d 5 = true → Hid (d 8 = false → Ow w' w9.heap.size x76 lc)) ∧ (d 7 = true → Hid (d 8 = false → Lt w' w9.heap.size x78 [y])) ∧ (d 8 = true → Hid (Nw w' w9.heap.size x79 (lc ++ [y])))) [1, 5, 7, 8] ?step21 5 4 [1, 5, 7, 8] _ _ _ rfl (by decide) (fun _ h => h) (Fits.of (by kernel_rfl)) ?init21 ?fin21
  case init21 => refine ⟨_, _, _, _, rfl, Below.refl _ _, ?_, ?_, ?_, ?_⟩ <;> (intro h; exact absurd h (by decide))
  case step21 =>
    intro i hi d a v21 hI hdi hdeps
    obtain ⟨x72, x76, x78, x79, rfl, BW, h1, h5, h7, h8⟩ := hI
    have hsw := BW.out.size
    simp only [List.mem_cons, List.not_mem_nil, or_false] at hi
    rcases hi with rfl | rfl | rfl | rfl
    · refine wpOp_step (o := ?os22) ?hos22 (fun K hK => ?_)
      case hos22 => simp only [List.getElem?_toArray, List.getElem?_cons_succ, List.getElem?_cons_zero]; rfl
      refine step_loadW rfl 34 (.tmp 18) rfl gk 0 rfl kc _ Tryd.underlying34 rfl IK.out (KB.out.below BW.out KB.out.lt).cells (hK _ _ ?_)
      clear hK K
      try simp only [Act.put, List.setIfInBounds_toArray, List.set_cons_zero, List.set_cons_succ]
      exact ⟨_, _, _, _, rfl, BW, fun _ => rfl, fun a => fun h => (h5 (by simpa using a)).out (by simpa using h), fun a => fun h => (h7 (by simpa using a)).out (by simpa using h), fun a => h8 (by simpa using a)⟩
    · refine wpOp_step (o := ?os23) ?hos23 (fun K hK => ?_)
      case hos23 => simp only [List.getElem?_toArray, List.getElem?_cons_succ, List.getElem?_cons_zero]; rfl
      refine step_onto rfl (.const (.slice none 0 0)) (.tmp 75) rfl rfl rfl (RC.out.below BW.out) (Ow.empty v21 w9.heap.size) (by rw [List.length_nil]; omega) hsw ?_
      intro av u21 hO hgr
      have hX : Below v21.heap.size v21 u21 := ⟨hgr.os, hgr.tape, hgr.output, hgr.size, fun i hi => hgr.block i hi (fun e => by cases e)⟩
      refine hK _ _ ?_
      clear hK K
      try simp only [Act.put, List.setIfInBounds_toArray, List.set_cons_zero, List.set_cons_succ]
      exact ⟨_, _, _, _, rfl, BW.out.trans (hX.mono hsw), fun a => by first | exact h1 (by simpa using a) | rfl, fun _ => fun _ => by simpa using hO, fun a => fun h => ((h7 (by simpa using a)).out (by simpa using h)).below hX, fun a => (h8 (by simpa using a)).out.below hX⟩
    · have hX := alloc_below v21 (.cells #[.int .u8 (y.toNat : Int)] 5)
      refine wpOp_step (o := ?os24) ?hos24 (fun K hK => ?_)
      case hos24 => simp only [List.getElem?_toArray, List.getElem?_cons_succ, List.getElem?_cons_zero]; rfl
      go_simp
      refine hK _ _ ?_
      clear hK K
      try simp only [Act.put, List.setIfInBounds_toArray, List.set_cons_zero, List.set_cons_succ]
      exact ⟨_, _, _, _, rfl, BW.out.trans (hX.mono hsw), fun a => by first | exact h1 (by simpa using a) | rfl, fun a => fun h => ((h5 (by simpa using a)).out (by simpa using h)).keep hX, fun _ => fun _ => Lt.new _ _ _ _ _ (by rfl) rfl hsw, fun a => (h8 (by simpa using a)).out.below hX⟩
    · have hOw := (h5 (hdeps 5 (by simp))).out hdi
      obtain ⟨gq, rfl, hgq, hgl, hRq⟩ := ((h7 (hdeps 7 (by simp))).out hdi).rd (k := 1) rfl (by omega)
      refine wpOp_step (o := ?os25) ?hos25 (fun K hK => ?_)
      case hos25 => simp only [List.getElem?_toArray, List.getElem?_cons_succ, List.getElem?_cons_zero]; rfl
      refine step_onto rfl (.tmp 76) (.tmp 78) rfl rfl rfl hRq hOw (by omega) hsw ?_
      intro av u21 hO hgr
      refine hK _ _ ?_
      clear hK K
      try simp only [Act.put, List.setIfInBounds_toArray, List.set_cons_zero, List.set_cons_succ]
      exact ⟨_, _, _, _, rfl, BW.out.grown hgr hsw (fun k hk => (hOw.lt_ k hk).1), fun a => by first | exact h1 (by simpa using a) | rfl, fun _ => fun h => absurd h (by simp), fun _ => fun h => absurd h (by simp), fun _ => by obtain ⟨AZ, cZ, e, hR, hN⟩ := hO.value; exact ⟨AZ, cZ, e, hR, fun z hz h0 => by obtain ⟨gz, e2, hz2⟩ := hN h0; rw [hz] at e2; injection e2 with e2; rw [e2]; exact hz2⟩⟩
  case fin21 =>
    intro a v21 hI
    obtain ⟨x72, x76, x78, x79, rfl, BW, h1, h5, h7, h8⟩ := hI
    obtain rfl := h1 (by decide)
    obtain ⟨A8, c8, rfl, hR8, _⟩ := (h8 (by decide)).out.rd LC1.out
    have R8 := Lib.hid hR8
    replace W1 := Lib.hid (W1.out.trans (BW.out.mono W1.out.size))
    replace PX := Lib.hid (HB.out.below PX.out BW.out)
    replace R3 := Lib.hid (R3.out.below BW.out)
    replace RC := Lib.hid (RC.out.below BW.out)
    clear h1 h5 h7 h8 hR8 BW
    try dsimp only
    refine wpAny_ready (rs := [9]) (by kernel_rfl) (by simp) ?_
    refine AllReady.cons (o := ?p26) ?q26 (fun K hK => ?_) AllReady.nil
    case q26 => simp only [List.getElem?_toArray, List.getElem?_cons_succ, List.getElem?_cons_zero]; rfl
    go_simp
    refine (CO3.out _ gx M7 _ _ _ _ _ _ _ (HG.out.below W1.out hsz) PX.out R3.out R8.out).mono ?_
    rintro e w10 ⟨A7, n7, c7, rfl, hR, hX, hF⟩
    refine hK _ _ ?_
    clear hK K
    try simp only [Act.put, List.setIfInBounds_toArray, List.set_cons_zero, List.set_cons_succ]
    replace W1 := Lib.hid (W1.out.trans (hX.mono W1.out.size))
    clear hR hX hF
    refine wpAny_take (i := 10) (oi := ?oi27) (v := .tuple #[.slice A7 n7 c7, .bool false]) ?hi27 (by kernel_rfl) (by kernel_rfl) (by kernel_rfl) ?hQ27 ?hy27 ?rest27
    case hi27 => simp only [List.getElem?_toArray, List.getElem?_cons_succ, List.getElem?_cons_zero]; rfl
    case hQ27 => exact fun _ _ _ h => h
    case hy27 => exact Or.inl ⟨by rfl, by intro w; go_simp⟩
    try simp only [Act.put, List.setIfInBounds_toArray, List.set_cons_zero, List.set_cons_succ]
    refine wpAny_take (i := 11) (oi := ?oi28) (v := .slice A7 n7 c7) ?hi28 (by kernel_rfl) (by kernel_rfl) (by kernel_rfl) ?hQ28 ?hy28 ?rest28
    case hi28 => simp only [List.getElem?_toArray, List.getElem?_cons_succ, List.getElem?_cons_zero]; rfl
    case hQ28 => exact fun _ _ _ h => h
    case hy28 => exact Or.inl ⟨by rfl, by intro w; go_simp⟩
    try simp only [Act.put, List.setIfInBounds_toArray, List.set_cons_zero, List.set_cons_succ]
    refine wpAny_take (i := 12) (oi := ?oi29) (v := .bool false) ?hi29 (by kernel_rfl) (by kernel_rfl) (by kernel_rfl) ?hQ29 ?hy29 ?rest29
    case hi29 => simp only [List.getElem?_toArray, List.getElem?_cons_succ, List.getElem?_cons_zero]; rfl
    case hQ29 => exact fun _ _ _ h => h
    case hy29 => exact Or.inl ⟨by rfl, by intro w; go_simp⟩
    try simp only [Act.put, List.setIfInBounds_toArray, List.set_cons_zero, List.set_cons_succ]
    refine wpAny_take (i := 13) (oi := ?oi30) (v := .bool false) ?hi30 (by kernel_rfl) (by kernel_rfl) (by kernel_rfl) ?hQ30 ?hy30 ?rest30
    case hi30 => simp only [List.getElem?_toArray, List.getElem?_cons_succ, List.getElem?_cons_zero]; rfl
    case hQ30 => exact fun _ _ _ h => h
    case hy30 => exact Or.inl ⟨by rfl, by intro w; go_simp⟩
    try simp only [Act.put, List.setIfInBounds_toArray, List.set_cons_zero, List.set_cons_succ]
    refine wpAny_done (by kernel_rfl) ?_ _
    go_wp2_with fail
    go_ret
    exact ⟨rfl, W1.out⟩

theorem walk {P : BxP} (hB : BoxOk P) (ideal : Bool) (x : UInt8) (n how : Int) (y : UInt8) {A1 A2 : Option Addr} {n1 c1 n2 c2 : Nat} {l1 l2 : List UInt8} (w : World) (hg : Gl w) (hn1 : -9223372036854775808 ≤ n) (hn2 : n ≤ 9223372036854775807) (hr1 : Rd w A1 n1 c1 l1) (hr2 : Rd w A2 n2 c2 l2) :
    Calls Tryd.prog 4 #[.bool ideal, .int .u8 (x.toNat : Int), .int .i64 n, .slice A1 n1 c1, .slice A2 n2 c2, .int .i64 how, .int .u8 (y.toNat : Int)] w fun e w' => e = .returned (.bool true) ∧ Below w.heap.size w w' := by
  by_cases h0 : n < 0
  · exact walkN hB ideal x n how y w hg hn1 hn2 hr1 hr2 (.inl h0)
  by_cases hm : n = 9223372036854775807
  · exact walkN hB ideal x n how y w hg hn1 hn2 hr1 hr2 (.inr hm)
  cases ideal with
  | false => exact walkR hB false x n how y w hg hn1 hn2 hr1 hr2 (by omega) hm
  | true => exact walkI hB true x n how y w hg hn1 hn2 hr1 hr2 (by omega) hm
end Go.Proofs.YtpbfeobifpmjbaaDoor.boxOpens
