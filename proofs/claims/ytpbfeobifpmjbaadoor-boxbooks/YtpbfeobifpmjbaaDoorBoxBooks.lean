/- The walk of the law BoxBooks: in an ideal box the same name has the same label, the same bytes the same mark; unlike ones come from the tape, one behind the other. -/
import Derived.Test.YtpbfeobifpmjbaaDoorBegun8
import Derived.Test.YtpbfeobifpmjbaaDoorRb3
namespace Go.Proofs.YtpbfeobifpmjbaaDoor.boxBooks
set_option linter.unusedVariables false
set_option linter.unusedSimpArgs false
set_option maxRecDepth 100000
open Go.RowKit
/-- A key of one byte and noughts. -/
def key1 (x : UInt8) : List UInt8 := x :: List.replicate 31 0
theorem key1_length (x : UInt8) : (key1 x).length = 32 := by simp [key1]
/-- A slice of bools. -/
def RdT (w : World) (A : Option Addr) (n : Nat) : Prop := ∀ j, j < n → ∃ b off t, A = some ⟨b, off, none⟩ ∧ w.cell? ⟨b, off + j, none⟩ = some (.bool t) ∧ b < w.heap.size
theorem again_look (s : Int) (a : Nat) (key b : List UInt8) (M : List Bx.BNote) : Bx.lookB key b (Bx.bookNext s a key b M) = some (Bx.bookOut s a key b M) := by
  unfold Bx.bookNext Bx.bookOut
  cases h : Bx.lookB key b M with
  | some o => simp [h]
  | none => simp [lookB_app, h]
theorem again_at (s : Int) (a a' : Nat) (key b : List UInt8) (M : List Bx.BNote) : Bx.bookAt a' key b (Bx.bookNext s a key b M) = a' := by simp [Bx.bookAt, again_look]
theorem again_out (s : Int) (a a' : Nat) (key b : List UInt8) (M : List Bx.BNote) : Bx.bookOut s a' key b (Bx.bookNext s a key b M) = Bx.bookOut s a key b M := by simp [Bx.bookOut, again_look]
theorem again_next (s : Int) (a a' : Nat) (key b : List UInt8) (M : List Bx.BNote) : Bx.bookNext s a' key b (Bx.bookNext s a key b M) = Bx.bookNext s a key b M := by
  have := again_look s a key b M
  generalize Bx.bookNext s a key b M = M' at *
  simp [Bx.bookNext, this]
theorem at_le (a : Nat) (key b : List UInt8) (M : List Bx.BNote) : Bx.bookAt a key b M ≤ a + 32 := by unfold Bx.bookAt; split <;> omega
theorem index_part (b off n c k : Nat) (h : k < n) (W : World) : (Instr.indexAt 43 (.slice (some ⟨b, off, none⟩) n c) (.int .i64 (k : Int))).run Tryd.prog W = .ok (.pointer (some ⟨b, off + k, none⟩)) W := by
  obtain ⟨i0, hi, hsz⟩ : ∃ i0, Tryd.prog.info? 28 = some i0 ∧ i0.size = 1 := by
    have : (Tryd.prog.info? 28).map (·.size) = some 1 := by kernel_rfl
    cases hh : Tryd.prog.info? 28 with
    | none => rw [hh] at this; cases this
    | some i0 => rw [hh] at this; exact ⟨i0, rfl, by simpa using this⟩
  have hel : Tryd.prog.elem 43 = 28 := by kernel_rfl
  rw [run_indexAt_slice (P := Tryd.prog) W 43 ⟨b, off, none⟩ n c .i64 (k : Int) (by rw [hel]; exact Tryd.underlying43), if_pos ⟨by omega, by omega⟩, hel]
  simp [sizeOf, typeInfo, hi, hsz, add_plain]
theorem index_bool (b off n c k : Nat) (h : k < n) (W : World) : (Instr.indexAt 44 (.slice (some ⟨b, off, none⟩) n c) (.int .i64 (k : Int))).run Tryd.prog W = .ok (.pointer (some ⟨b, off + k, none⟩)) W := by
  obtain ⟨i0, hi, hsz⟩ : ∃ i0, Tryd.prog.info? 4 = some i0 ∧ i0.size = 1 := by
    have : (Tryd.prog.info? 4).map (·.size) = some 1 := by kernel_rfl
    cases hh : Tryd.prog.info? 4 with
    | none => rw [hh] at this; cases this
    | some i0 => rw [hh] at this; exact ⟨i0, rfl, by simpa using this⟩
  have hel : Tryd.prog.elem 44 = 4 := by kernel_rfl
  rw [run_indexAt_slice (P := Tryd.prog) W 44 ⟨b, off, none⟩ n c .i64 (k : Int) (by rw [hel]; exact Tryd.underlying44), if_pos ⟨by omega, by omega⟩, hel]
  simp [sizeOf, typeInfo, hi, hsz, add_plain]
/-- Where both boxes stand. -/
structure Sides (P : BxP) (w0 w : World) (gx gy : Nat) (s : Int) (a : Nat) (B L : List Bx.BNote) (l : List RNote) (v : Value) (M : Nat → Prop) : Prop where
  x : P w gx (.ideal s a [] B L) M
  y : RefAt w w0.heap.size gy s a l v
  al : Alike l B L
  mx : ∀ b, M b → w0.heap.size ≤ b
  gn : ¬ M gy
  gl : w0.heap.size ≤ gy
  vn : ∀ q, v.ownBlock = some q → ¬ M q
theorem Sides.vlt {P : BxP} {w0 w : World} {gx gy : Nat} {s : Int} {a : Nat} {B L : List Bx.BNote} {l : List RNote} {v : Value} {M : Nat → Prop} (h : Sides P w0 w gx gy s a B L l v M) : ∀ q, v.ownBlock = some q → w0.heap.size ≤ q ∧ q < w.heap.size := fun q hq => World.ownsRow.lt h.y.own q hq
theorem Sides.below {P : BxP} (hB : BoxOk P) {w0 w w' : World} {gx gy : Nat} {s : Int} {a : Nat} {B L : List Bx.BNote} {l : List RNote} {v : Value} {M : Nat → Prop} (h : Sides P w0 w gx gy s a B L l v M) (hb : Below w.heap.size w w') : Sides P w0 w' gx gy s a B L l v M :=
  ⟨hB.below h.x hb, h.y.below hb, h.al, h.mx, h.gn, h.gl, h.vn⟩


set_option maxRecDepth 100000 in
set_option maxHeartbeats 1600000 in
theorem walk {P : BxP} (hB : BoxOk P) (s : Int) {A1 A2 : Option Addr} {n1 c1 n2 c2 : Nat} {ps : List (List UInt8)} (w : World) (hg : Gl w) (hv1 : -9223372036854775808 ≤ s) (hv2 : s ≤ 9223372036854775807) (hr1 : RdP w A1 n1 ps) (hr2 : RdT w A2 n2) (hl1 : n1 ≤ maxLen) (hl2 : n2 ≤ maxLen) :
    Calls Tryd.prog 6 #[.int .i64 s, .slice A1 n1 c1, .slice A2 n2 c2] w fun e w' => e = .returned (.bool true) ∧ Below w.heap.size w w' := by
  have HG := Lib.hid hg
  have HB := Lib.hid hB
  have hsz := hg.size
  have HR1 := Lib.hid hr1
  have HR2 := Lib.hid hr2
  unfold maxLen at hl1 hl2
  clear hg hB hr1 hr2
  go_enter Tryd.func6, Tryd.ntmps6
  go_wp2_with fail
  refine (begun8_any HB.out HG.out).mono ?_
  rintro e w1 ⟨rfl, hX⟩
  have hs1 := hX.size
  have W1 := Lib.hid hX
  clear hX
  go_wp2_with fail
  refine (tnew_any s _ (by omega) (by omega)).mono ?_
  rintro e w2 ⟨t1, rfl, ht1, hT, hX⟩
  replace W1 := Lib.hid (W1.out.trans (hX.mono W1.out.size))
  have T1 := Lib.hid hT
  have hsa := hX.size
  clear hT hX
  go_wp2_with fail
  refine (HB.out.newI T1.out).mono ?_
  rintro e w3 ⟨gx, M, rfl, hM, hP, hX⟩
  have hs3 := hX.size
  replace W1 := Lib.hid (W1.out.trans (hX.mono W1.out.size))
  have MX : Hid (∀ b, M b → w.heap.size ≤ b) := fun b hb => by rcases hM b hb with h | h <;> omega
  have PX := Lib.hid hP
  have ML : Hid (∀ b, M b → b < w3.heap.size) := fun b hb => HB.out.lt PX.out hb
  clear hM hP hX T1
  go_upto_region 6 with (fail)
  obtain ⟨w4, hw4⟩ : ∃ w4, w4 = w3.alloc (.cells #[.int .i64 1, .int .i64 s, .int .i64 0, .slice none 0 0] 48) := ⟨_, rfl⟩
  have SD : Hid (Sides P w w4 gx w3.heap.size s 0 [] [] [] (.slice none 0 0) M) := by
    unfold Hid
    have hb : Below w3.heap.size w3 w4 := by rw [hw4]; exact alloc_below w3 _
    exact ⟨HB.out.below PX.out hb, ⟨by rw [hw4]; exact Blk.at_new _ _ _ _ _ rfl rfl, World.ownsRow_nil _ _ _ _, fun n hn => by simp at hn, hv1, hv2⟩, Alike.nil, MX.out, fun h => by have := ML.out _ h; omega, by have := W1.out.size; omega, fun q hq => by cases hq⟩
  have W4 : Hid (Below w.heap.size w w4) := by unfold Hid; rw [hw4]; exact W1.out.trans ((alloc_below w3 _).mono W1.out.size)
  change Code.wp _ _ _ _ (w3.alloc (.cells #[.int .i64 1, .int .i64 s, .int .i64 0, .slice none 0 0] 48))
  rw [← hw4]
  clear hw4 PX ML MX W1
  obtain ⟨gy, hgy⟩ : ∃ g, g = w3.heap.size := ⟨_, rfl⟩
  rw [← hgy] at SD
  rw [← hgy]
  clear hgy
  go_wp2_with fail
  go_loopw [10] (fun i wr => ∃ (k a : Nat) (B L : List Bx.BNote) (l : List RNote) (v : Value) (M : Nat → Prop), k ≤ 12 ∧ i = .int .i64 k ∧ Hid (a ≤ 64 * k) ∧ Hid (l.length ≤ 4 * k) ∧ Hid (Sides P w wr gx gy s a B L l v M) ∧ Hid (Below w.heap.size w wr)) (fun i _ => 12 - (intOf i).toNat)
  case atStart => exact ⟨0, 0, [], [], [], _, M, by omega, rfl, by unfold Hid; omega, by unfold Hid; simp, SD, W4⟩
  case round =>
    clear SD W4 M
    obtain ⟨k, a, B, L, l, v, M, hk, rfl, HA, HL, SD, W1⟩ := hrel
    by_cases h1 : k < n1
    case neg =>
      have d1 : decide ((k : Int) < (n1 : Int)) = false := decide_eq_false (by omega)
      go_wp2_with fail
      go_ret
      exact ⟨rfl, W1.out⟩
    have d1 : decide ((k : Int) < (n1 : Int)) = true := decide_eq_true (by omega)
    by_cases h3 : k < 12
    case neg =>
      have d3 : decide ((k : Int) < 12) = false := decide_eq_false (by omega)
      go_wp2_with fail
      go_ret
      exact ⟨rfl, W1.out⟩
    have d3 : decide ((k : Int) < 12) = true := decide_eq_true (by omega)
    obtain ⟨b1, f1, Ab, nb, cb, rfl, hb1, hcell, hrb⟩ := HR1.out.at_ k h1
    have hi1 := fun W => index_part b1 f1 n1 c1 k h1 W
    obtain ⟨o1, ho1⟩ : ∃ o, o = f1 + k := ⟨_, rfl⟩
    rw [← ho1] at hi1 hcell
    obtain ⟨bw, hbw⟩ : ∃ x, x = ps.getD k [] := ⟨_, rfl⟩
    rw [← hbw] at hrb
    obtain ⟨m, hm⟩ : ∃ m, m = min nb 10 := ⟨_, rfl⟩
    obtain ⟨bb, hbb⟩ : ∃ x, x = bw.take 10 := ⟨_, rfl⟩
    have CH : Hid (∀ W, Calls Tryd.prog 11 #[.slice Ab nb cb, .int .i64 10] W fun e w' => e = .returned (.slice Ab m cb) ∧ W = w') := fun W => by rw [hm]; exact short_eq 10 hrb.cap hrb.max (by omega)
    have RB : Hid (Rd w Ab m cb bb) := by unfold Hid; rw [hm, hbb]; exact hrb.short 10
    have hm10 : m ≤ 10 := by omega
    have cn : wr.cell? ⟨b1, o1, none⟩ = some (.slice Ab nb cb) := (World.cell?_of_block (W1.out.block b1 hb1)).trans hcell
    obtain ⟨x0, hx0⟩ : ∃ x0 : UInt8, x0 = UInt8.ofNat m := ⟨_, rfl⟩
    have hx0m : (x0.toNat : Int) = (m : Int) := by rw [hx0, UInt8.toNat_ofNat']; omega
    obtain ⟨ke, hke⟩ : ∃ k, k = key1 x0 := ⟨_, rfl⟩
    have K32 : Hid (ke.length = 32) := by unfold Hid; rw [hke]; exact key1_length x0
    obtain ⟨kc, hkc⟩ : ∃ c, c = ke.map cellOf := ⟨_, rfl⟩
    have IK : Hid ((Tryd.prog.info? 34).map (·.size) = some kc.length) := by unfold Hid; rw [hkc, List.length_map, K32.out]; kernel_rfl
    have LK : Hid ((List.replicate 32 (Value.int .u8 0)).length = kc.length) := by unfold Hid; rw [hkc, List.length_map, K32.out]; rfl
    have OKC : Hid (∀ v ∈ kc, v.oneCell' = true) := by unfold Hid; rw [hkc]; exact cells_u8 _
    have BKC : Hid (Tryd.prog.built 34 [(0, .int .u8 (m : Int))] = some kc.toArray) := by unfold Hid; rw [hkc, hke, ← hx0m]; kernel_rfl
    have HKC := Lib.hid hkc
    clear ho1 hbw hm hbb hx0 hx0m hke hkc hcell hrb
    go_wp2_with fail
    refine (CH.out wr).mono ?_
    rintro e w9 ⟨rfl, rfl⟩
    clear cn hi1 CH
    have hmw : IntKind.u8.wrap (m : Int) = (m : Int) := by first | (rw [IntKind.wrap_u8]; omega) | (simp [IntKind.wrap, IntKind.signed, IntKind.bits]; omega)
    have SDs := Lib.hid SD.out
    go_upto_region 10 with (fail)
    refine wp_region_lit ?_
    refine move_law rfl (.tmp 11) rfl ?_
    simp only [Act.put, List.setIfInBounds_toArray, List.set_cons_zero, List.set_cons_succ]
    refine wpList_plain rfl fun K hK => ?_
    go_simp
    refine hK _ _ ?_
    clear hK K
    try simp only [Act.put, List.setIfInBounds_toArray, List.set_cons_zero, List.set_cons_succ]
    refine wpList_plain rfl fun K hK => ?_
    go_simp
    refine hK _ _ ?_
    clear hK K
    try simp only [Act.put, List.setIfInBounds_toArray, List.set_cons_zero, List.set_cons_succ]
    refine build_law rfl 34 #[(0, .tmp 40)] rfl kc (by simp only [List.map_toArray, List.map_cons, List.map_nil]; exact BKC.out) ?_
    simp only [Act.put, List.setIfInBounds_toArray, List.set_cons_zero, List.set_cons_succ]
    go_upto_region 11 with (first
      | ((with_reducible refine storeGen_law rfl 34 (.tmp 12) (.tmp 41) rfl wr.heap.size rfl kc rfl 34 (List.replicate 32 (.int .u8 0)) IK.out LK.out OKC.out wr.heap.size wr ?_ ?_ (Nat.le_refl _) ?_)
         · exact Blk.at_new _ _ 34 _ _ (by rfl) rfl
         · exact (Below.refl _ _).alloc (Nat.le_refl _) _
         intro w6 BLK XK))
    obtain ⟨gk, hgk⟩ : ∃ g, g = wr.heap.size := ⟨_, rfl⟩
    rw [← hgk] at BLK
    rw [← hgk]
    have GK0 : Hid (¬ M gk ∧ gk ≠ gy ∧ v.ownBlock ≠ some gk ∧ w.heap.size ≤ gk) := by
      unfold Hid
      have hwr := W1.out.size
      refine ⟨fun h => ?_, fun h => ?_, fun h => ?_, by omega⟩
      · have := HB.out.lt SD.out.x h
        omega
      · have := SD.out.y.blk.lt
        omega
      · have := (SD.out.vlt gk h).2
        omega
    clear hgk hmw SDs
    replace SD := Lib.hid (SD.out.below HB.out XK.out)
    replace W1 := Lib.hid (W1.out.trans (XK.out.mono W1.out.size))
    clear XK
    go_wp2_with fail
    go_loopw [13] (fun j wr => ∃ (jj a : Nat) (B L : List Bx.BNote) (l : List RNote) (v : Value) (M : Nat → Prop), jj ≤ 2 ∧ j = .int .i64 jj ∧ Hid (a ≤ 64 * k + 32 * jj) ∧ Hid (l.length ≤ 4 * k + 2 * jj) ∧ Hid (Sides P w wr gx gy s a B L l v M) ∧ Hid (Below w.heap.size w wr) ∧ Hid (Blk wr gk 34 kc) ∧ Hid (¬ M gk ∧ gk ≠ gy ∧ v.ownBlock ≠ some gk ∧ w.heap.size ≤ gk)) (fun j _ => 2 - (intOf j).toNat)
    case atStart => exact ⟨0, a, B, L, l, v, M, by omega, rfl, by unfold Hid; have := HA.out; omega, by unfold Hid; have := HL.out; omega, SD, W1, BLK, GK0⟩
    case round =>
      clear SD W1 BLK GK0 HA HL M v l L B a
      rename_i wr0
      obtain ⟨jj, a, B, L, l, v, M, hjj, rfl, HA, HL, SD, W1, KB, GK⟩ := hrel
      by_cases hj : jj < 2
      case neg =>
        have dj : decide ((jj : Int) < 2) = false := decide_eq_false (by omega)
        go_wp2_with fail
        go_roundw
        case rel => exact ⟨k + 1, a, B, L, l, v, M, by omega, by go_num, by unfold Hid; have := HA.out; omega, by unfold Hid; have := HL.out; omega, SD, W1⟩
        case measure => simp [intOf]; omega
      have dj : decide ((jj : Int) < 2) = true := decide_eq_true (by omega)
      have hA9 := HA.out
      have hL9 := HL.out
      obtain ⟨hGB, hGL⟩ := HB.out.good SD.out.x
      by_cases h2 : k < n2
      case neg =>
        have d2 : decide ((k : Int) < (n2 : Int)) = false := decide_eq_false (by omega)
        obtain ⟨mk, hmk⟩ : ∃ x, x = Bx.bookOut s a ke bb L := ⟨_, rfl⟩
        obtain ⟨mc, hmc⟩ : ∃ x, x = mk.map cellOf := ⟨_, rfl⟩
        have LM : Hid (mk.length = 32) := by unfold Hid; rw [hmk]; exact Bx.bookOut_length _ _ _ _ _ hGL
        obtain ⟨a1, ha1⟩ : ∃ x, x = Bx.bookAt a ke bb L := ⟨_, rfl⟩
        have HA1 : Hid (a1 ≤ a + 32) := by unfold Hid; rw [ha1]; exact at_le a ke bb L
        obtain ⟨N1, hN1⟩ : ∃ x, x = Bx.bookNext s a ke bb L := ⟨_, rfl⟩
        have hG1 : Bx.Good N1 := by rw [hN1]; exact Bx.bookNext_good _ _ _ _ _ hGL
        have EQ : Hid (∀ W, (Op.equalIn 10000 34 (.agg mc.toArray) (.agg mc.toArray)).run Tryd.prog W = .ok true W) := fun W => by rw [hmc, equal30 mk mk LM.out LM.out, sameB_self]
        have CX : Hid (∀ W, Gl W → P W gx (.ideal s a [] B L) M → Calls Tryd.prog 16 #[.pointer (some ⟨gx, 0, none⟩), .agg kc.toArray, .string ⟨bb.toArray⟩] W fun e w' => e = .returned (.agg mc.toArray) ∧ ∃ M1, P w' gx (.ideal s a1 [] B N1) M1 ∧ Fr M W w' ∧ ∀ b, M1 b → M b ∨ W.heap.size ≤ b) := fun W h1 h2 => by
          rw [HKC.out, hmc, hmk, ha1, hN1]
          refine (HB.out.lbI ke bb h1 (fun b hb => Nat.le_trans hsz (SD.out.mx b hb)) h2 (by omega) K32.out (by rw [RB.out.len]; omega)).mono ?_
          rintro e w' ⟨M1, he, hP, hF, hM⟩
          exact ⟨he, M1, hP, hF, hM⟩
        have CY : Hid (∀ (W : World) (l : List RNote) (v : Value), RefAt W w.heap.size gy s a l v → Alike l B L → l.length ≤ 900 → w.heap.size ≤ W.heap.size → Calls Tryd.prog 19 #[.pointer (some ⟨gy, 0, none⟩), .agg kc.toArray, .string ⟨bb.toArray⟩] W (fun e w' => ∃ l' v', e = .returned (.agg mc.toArray) ∧ RefAt w' w.heap.size gy s a1 l' v' ∧ l'.length ≤ l.length + 1 ∧ Alike l' B N1 ∧ (∀ q, v'.ownBlock = some q → v.ownBlock = some q ∨ W.heap.size ≤ q) ∧ Fr (fun x => x = gy ∨ some x = v.ownBlock) W w')) := fun W l v h1 h2 h3 h4 => by
          rw [HKC.out, hmc, hmk, ha1, hN1]
          exact rlabel_any ke h1 h2 hGL K32.out (by rw [RB.out.len]; omega) (by omega) (by omega) h4
        clear hmk hmc ha1 hN1 hGB hGL hG1
        go_upto_region 17 with (fail)
        refine wp_region_any (by kernel_rfl) ?_
        change wpAny _ _ _ _ _ _ _ (World.drew _)
        replace SD : Hid (Sides P w wr.drew gx gy s a B L l v M) := ⟨HB.out.keep SD.out.x (Nat.le_refl _) (fun _ _ => rfl), SD.out.y.keep (Nat.le_refl _) rfl (fun _ _ => rfl), SD.out.al, SD.out.mx, SD.out.gn, SD.out.gl, SD.out.vn⟩
        replace W1 := Lib.hid W1.out.drew
        replace KB := Lib.hid KB.out.drew
        generalize wr.drew = z9 at *
        refine wpAny_take (i := 0) (oi := ?oi23) (v := .pointer (some ⟨gx, 0, none⟩)) ?hi23 (by kernel_rfl) (by kernel_rfl) (by kernel_rfl) ?hQ23 ?hy23 ?rest23
        case hi23 => simp only [List.getElem?_toArray, List.getElem?_cons_succ, List.getElem?_cons_zero]; rfl
        case hQ23 => exact fun _ _ _ h => h
        case hy23 => exact Or.inl ⟨by rfl, by intro w; go_simp⟩
        try simp only [Act.put, List.setIfInBounds_toArray, List.set_cons_zero, List.set_cons_succ]
        refine wpAny_take (i := 2) (oi := ?oi24) (v := .slice Ab m cb) ?hi24 (by kernel_rfl) (by kernel_rfl) (by kernel_rfl) ?hQ24 ?hy24 ?rest24
        case hi24 => simp only [List.getElem?_toArray, List.getElem?_cons_succ, List.getElem?_cons_zero]; rfl
        case hQ24 => exact fun _ _ _ h => h
        case hy24 => exact Or.inl ⟨by rfl, by intro w; go_simp⟩
        try simp only [Act.put, List.setIfInBounds_toArray, List.set_cons_zero, List.set_cons_succ]
        refine wpAny_take (i := 5) (oi := ?oi25) (v := .pointer (some ⟨gy, 0, none⟩)) ?hi25 (by kernel_rfl) (by kernel_rfl) (by kernel_rfl) ?hQ25 ?hy25 ?rest25
        case hi25 => simp only [List.getElem?_toArray, List.getElem?_cons_succ, List.getElem?_cons_zero]; rfl
        case hQ25 => exact fun _ _ _ h => h
        case hy25 => exact Or.inl ⟨by rfl, by intro w; go_simp⟩
        try simp only [Act.put, List.setIfInBounds_toArray, List.set_cons_zero, List.set_cons_succ]
        refine wpAny_take (i := 7) (oi := ?oi26) (v := .slice Ab m cb) ?hi26 (by kernel_rfl) (by kernel_rfl) (by kernel_rfl) ?hQ26 ?hy26 ?rest26
        case hi26 => simp only [List.getElem?_toArray, List.getElem?_cons_succ, List.getElem?_cons_zero]; rfl
        case hQ26 => exact fun _ _ _ h => h
        case hy26 => exact Or.inl ⟨by rfl, by intro w; go_simp⟩
        try simp only [Act.put, List.setIfInBounds_toArray, List.set_cons_zero, List.set_cons_succ]
        refine phaseL (fun i => if i = 4 then [1, 3] else []) (fun d a w' => ∃ x77 x79 x82 x84 x80 : Value, a = { tmps := #[.int .i64 s, .slice (some ⟨b1, f1, none⟩) n1 c1, .slice A2 n2 c2, undef, undef, undef, u6, .bool true, .pointer (some ⟨gx, 0, none⟩), .pointer (some ⟨gy, 0, none⟩), .int .i64 (k : Int), .slice Ab m cb, .pointer (some ⟨gk, 0, none⟩), .int .i64 (jj : Int), .bool true, .bool true, .bool false, .int .i64 s, .pointer (some ⟨t1, 0, none⟩), .pointer (some ⟨gx, 0, none⟩), .int .i64 s, .agg #[.int .i64 1, .int .i64 s, .int .i64 0, .slice none 0 0], .pointer (some ⟨gy, 0, none⟩), .int .i64 (k : Int), .slice (some ⟨b1, f1, none⟩) n1 c1, .int .i64 (n1 : Int), .bool true, .bool true, .int .i64 (k : Int), .bool true, .bool true, u31, u32, .slice (some ⟨b1, f1, none⟩) n1 c1, .int .i64 (k : Int), .pointer (some ⟨b1, o1, none⟩), .slice Ab nb cb, .slice Ab m cb, .slice Ab m cb, .int .i64 (m : Int), .int .u8 (m : Int), .agg kc.toArray, .int .i64 (jj : Int), .bool true, u44, u45, .int .i64 (k : Int), .slice A2 n2 c2, .int .i64 (n2 : Int), .bool false, .bool false, undef, undef, undef, undef, .bool false, u56, u57, u58, u59, u60, u61, u62, u63, u64, u65, u66, u67, u68, u69, u70, u71, u72, u73, u74, u75, .pointer (some ⟨gx, 0, none⟩), x77, .slice Ab m cb, x79, x80, .pointer (some ⟨gy, 0, none⟩), x82, .slice Ab m cb, x84, u85, u86], defers := [] } ∧ Hid (Blk w' gk 34 kc) ∧ Hid (Below w.heap.size w w') ∧ (d 1 = true → x77 = .agg kc.toArray) ∧ (d 3 = true → x79 = .string ⟨bb.toArray⟩) ∧ (d 6 = true → x82 = .agg kc.toArray) ∧ (d 8 = true → x84 = .string ⟨bb.toArray⟩) ∧ (d 4 = false → w' = z9) ∧ (d 4 = true → x80 = .agg mc.toArray ∧ Hid (∃ M1, P w' gx (.ideal s a1 [] B N1) M1 ∧ Fr M z9 w' ∧ ∀ b, M1 b → M b ∨ z9.heap.size ≤ b))) [1, 3, 6, 8, 4] ?step27 2 5 [1, 3, 6, 8, 4] _ _ _ rfl (by decide) (fun _ h => h) (Fits.of (by kernel_rfl)) ?init27 ?fin27
        case init27 => refine ⟨_, _, _, _, _, rfl, KB, W1, ?_, ?_, ?_, ?_, fun _ => rfl, ?_⟩ <;> (intro h; exact absurd h (by decide))
        case step27 =>
          intro i hi d a v27 hI hdi hdeps
          obtain ⟨x77, x79, x82, x84, x80, rfl, BK, BW, h1, h3, h6, h8, hW, hP⟩ := hI
          simp only [List.mem_cons, List.not_mem_nil, or_false] at hi
          rcases hi with rfl | rfl | rfl | rfl | rfl
          · refine wpOp_step (o := ?os28) ?hos28 (fun K hK => ?_)
            case hos28 => simp only [List.getElem?_toArray, List.getElem?_cons_succ, List.getElem?_cons_zero]; rfl
            refine step_loadW rfl 34 (.tmp 12) rfl gk 0 rfl kc _ Tryd.underlying34 rfl IK.out BK.out.cells (hK _ _ ?_)
            clear hK K
            try simp only [Act.put, List.setIfInBounds_toArray, List.set_cons_zero, List.set_cons_succ]
            exact ⟨_, _, _, _, _, rfl, BK, BW, fun _ => rfl, fun a => by first | exact h3 (by simpa using a) | rfl, fun a => by first | exact h6 (by simpa using a) | rfl, fun a => by first | exact h8 (by simpa using a) | rfl, fun h => hW (by simpa using h), fun h => hP (by simpa using h)⟩
          · have hcv := conv_bytes (RB.out.below BW.out)
            refine wpOp_step (o := ?os29) ?hos29 (fun K hK => ?_)
            case hos29 => simp only [List.getElem?_toArray, List.getElem?_cons_succ, List.getElem?_cons_zero]; rfl
            go_simp
            refine hK _ _ ?_
            clear hK K
            try simp only [Act.put, List.setIfInBounds_toArray, List.set_cons_zero, List.set_cons_succ]
            exact ⟨_, _, _, _, _, rfl, BK, BW, fun a => by first | exact h1 (by simpa using a) | rfl, fun _ => rfl, fun a => by first | exact h6 (by simpa using a) | rfl, fun a => by first | exact h8 (by simpa using a) | rfl, fun h => hW (by simpa using h), fun h => hP (by simpa using h)⟩
          · refine wpOp_step (o := ?os30) ?hos30 (fun K hK => ?_)
            case hos30 => simp only [List.getElem?_toArray, List.getElem?_cons_succ, List.getElem?_cons_zero]; rfl
            refine step_loadW rfl 34 (.tmp 12) rfl gk 0 rfl kc _ Tryd.underlying34 rfl IK.out BK.out.cells (hK _ _ ?_)
            clear hK K
            try simp only [Act.put, List.setIfInBounds_toArray, List.set_cons_zero, List.set_cons_succ]
            exact ⟨_, _, _, _, _, rfl, BK, BW, fun a => by first | exact h1 (by simpa using a) | rfl, fun a => by first | exact h3 (by simpa using a) | rfl, fun _ => rfl, fun a => by first | exact h8 (by simpa using a) | rfl, fun h => hW (by simpa using h), fun h => hP (by simpa using h)⟩
          · have hcv := conv_bytes (RB.out.below BW.out)
            refine wpOp_step (o := ?os31) ?hos31 (fun K hK => ?_)
            case hos31 => simp only [List.getElem?_toArray, List.getElem?_cons_succ, List.getElem?_cons_zero]; rfl
            go_simp
            refine hK _ _ ?_
            clear hK K
            try simp only [Act.put, List.setIfInBounds_toArray, List.set_cons_zero, List.set_cons_succ]
            exact ⟨_, _, _, _, _, rfl, BK, BW, fun a => by first | exact h1 (by simpa using a) | rfl, fun a => by first | exact h3 (by simpa using a) | rfl, fun a => by first | exact h6 (by simpa using a) | rfl, fun _ => rfl, fun h => hW (by simpa using h), fun h => hP (by simpa using h)⟩
          · have hv := hW hdi
            subst hv
            obtain rfl := h1 (hdeps 1 (by simp))
            obtain rfl := h3 (hdeps 3 (by simp))
            refine wpOp_step (o := ?os32) ?hos32 (fun K hK => ?_)
            case hos32 => simp only [List.getElem?_toArray, List.getElem?_cons_succ, List.getElem?_cons_zero]; rfl
            go_simp
            refine (CX.out _ (HG.out.below BW.out hsz) SD.out.x).mono ?_
            rintro e u_27 ⟨rfl, M1, hP1, hF1, hM1⟩
            refine hK _ _ ?_
            clear hK K
            try simp only [Act.put, List.setIfInBounds_toArray, List.set_cons_zero, List.set_cons_succ]
            exact ⟨_, _, _, _, _, rfl, hF1.blk BK.out GK.out.1, hF1.below BW.out SD.out.mx BW.out.size, fun a => by first | exact h1 (by simpa using a) | rfl, fun a => by first | exact h3 (by simpa using a) | rfl, fun a => by first | exact h6 (by simpa using a) | rfl, fun a => by first | exact h8 (by simpa using a) | rfl, fun h => absurd h (by simp), fun _ => ⟨rfl, ⟨M1, hP1, hF1, hM1⟩⟩⟩
        case fin27 =>
          intro a v27 hI
          obtain ⟨x77, x79, x82, x84, x80, rfl, BK, BW, h1, h3, h6, h8, hW, hP⟩ := hI
          obtain rfl := h1 (by decide)
          obtain rfl := h3 (by decide)
          obtain rfl := h6 (by decide)
          obtain rfl := h8 (by decide)
          obtain ⟨rfl, hpost⟩ := hP (by decide)
          obtain ⟨M1, hP1, hF1, hM1⟩ := hpost.out
          have Y1 : Hid (RefAt v27 w.heap.size gy s a l v) := SD.out.y.keep hF1.size (hF1.block gy SD.out.y.blk.lt SD.out.gn) (fun q hq => hF1.block q (SD.out.vlt q hq).2 (SD.out.vn q hq))
          have MF : Hid ((∀ b, M1 b → w.heap.size ≤ b) ∧ ¬ M1 gy ∧ (∀ q, v.ownBlock = some q → ¬ M1 q) ∧ ¬ M1 gk) := by
            unfold Hid
            have hzs := W1.out.size
            refine ⟨fun b hb => ?_, fun h => ?_, fun q hq h => ?_, fun h => ?_⟩
            · rcases hM1 b hb with h | h
              · exact SD.out.mx b h
              · omega
            · rcases hM1 _ h with h | h
              · exact SD.out.gn h
              · have := SD.out.y.blk.lt
                omega
            · rcases hM1 _ h with h | h
              · exact SD.out.vn q hq h
              · have := (SD.out.vlt q hq).2
                omega
            · rcases hM1 _ h with h | h
              · exact GK.out.1 h
              · have := KB.out.lt
                omega
          have PX := Lib.hid hP1
          have hGLy := SD.out.gl
          replace W1 := Lib.hid BW.out
          replace KB := Lib.hid BK.out
          clear hpost hP1 hF1 hM1 hW hP BW BK
          try dsimp only
          refine wpAny_ready (rs := [9]) (by kernel_rfl) (by simp) ?_
          refine AllReady.cons (o := ?p33) ?q33 (fun K hK => ?_) AllReady.nil
          case q33 => simp only [List.getElem?_toArray, List.getElem?_cons_succ, List.getElem?_cons_zero]; rfl
          go_simp
          refine (CY.out _ l v Y1.out SD.out.al (by omega) W1.out.size).mono ?_
          rintro e z2 ⟨l2, v2, rfl, hR2, hl2', hal2, hq2, hF2⟩
          refine hK _ _ ?_
          clear hK K
          try simp only [Act.put, List.setIfInBounds_toArray, List.set_cons_zero, List.set_cons_succ]
          have GN : Hid (gk ≠ gy ∧ v.ownBlock ≠ some gk ∧ w.heap.size ≤ gk) := GK.out.2
          have VL : Hid (∀ q, v.ownBlock = some q → w.heap.size ≤ q) := fun q hq => (SD.out.vlt q hq).1
          have MFn : Hid ((∀ b, M1 b → w.heap.size ≤ b) ∧ ¬ M1 gy ∧ (∀ q, (v2).ownBlock = some q → ¬ M1 q) ∧ ¬ M1 gk) := ⟨MF.out.1, MF.out.2.1, fun q hq h => by
            rcases hq2 q hq with h' | h'
            · exact MF.out.2.2.1 q h' h
            · have := HB.out.lt PX.out h
              omega, MF.out.2.2.2⟩
          have GNn : Hid (gk ≠ gy ∧ (v2).ownBlock ≠ some gk ∧ w.heap.size ≤ gk) := ⟨GN.out.1, fun h => by
            rcases hq2 gk h with h' | h'
            · exact GN.out.2.1 h'
            · have := KB.out.lt
              omega, GN.out.2.2⟩
          have VLn : Hid (∀ q, (v2).ownBlock = some q → w.heap.size ≤ q) := fun q hq => by
            rcases hq2 q hq with h' | h'
            · exact VL.out q h'
            · have := W1.out.size
              omega
          replace PX : Hid (P z2 gx (.ideal s a1 [] B N1) M1) := HB.out.keep PX.out hF2.size (fun b hb => hF2.block b (HB.out.lt PX.out hb) (fun h => by
            rcases h with h | h
            · exact MF.out.2.1 (by rw [← h]; exact hb)
            · exact MF.out.2.2.1 b h.symm hb))
          replace W1 := Lib.hid (hF2.below W1.out (fun b hb => by rcases hb with hb | hb; rw [hb]; exact hGLy; exact VL.out b hb.symm) W1.out.size)
          replace KB := Lib.hid (hF2.blk KB.out (fun h => by rcases h with h | h; exact GN.out.1 h; exact GN.out.2.1 h.symm))
          have Y2 := Lib.hid hR2
          have AL2 := Lib.hid hal2
          replace MF := MFn
          replace GN := GNn
          replace VL := VLn
          have hee := EQ.out
          clear hR2 hal2 hq2 hF2 MFn GNn VLn Y1 CX CY
          refine wpAny_take (i := 10) (oi := ?oi34) (v := .bool false) ?hi34 (by kernel_rfl) (by kernel_rfl) (by kernel_rfl) ?hQ34 ?hy34 ?rest34
          case hi34 => simp only [List.getElem?_toArray, List.getElem?_cons_succ, List.getElem?_cons_zero]; rfl
          case hQ34 => exact fun _ _ _ h => h
          case hy34 => exact Or.inl ⟨by rfl, by intro w; go_simp⟩
          try simp only [Act.put, List.setIfInBounds_toArray, List.set_cons_zero, List.set_cons_succ]
          clear hee
          refine wpAny_done (by kernel_rfl) ?_ _
          go_wp2_with fail
          go_roundw
          case rel => exact ⟨jj + 1, a1, B, N1, l2, v2, M1, by omega, by go_num, by unfold Hid; have := HA1.out; omega, by unfold Hid; omega, ⟨PX.out, Y2.out, AL2.out, MF.out.1, MF.out.2.1, hGLy, MF.out.2.2.1⟩, W1, KB, ⟨MF.out.2.2.2, GN.out.1, GN.out.2.1, GN.out.2.2⟩⟩
          case measure => simp [intOf]; omega
      have d2 : decide ((k : Int) < (n2 : Int)) = true := decide_eq_true (by omega)
      obtain ⟨b2, f2, tt, rfl, hc2, hb2⟩ := HR2.out k h2
      have hi2 := fun W => index_bool b2 f2 n2 c2 k h2 W
      obtain ⟨o2, ho2⟩ : ∃ o, o = f2 + k := ⟨_, rfl⟩
      rw [← ho2] at hi2 hc2
      have cm : wr.cell? ⟨b2, o2, none⟩ = some (.bool tt) := (World.cell?_of_block (W1.out.block b2 hb2)).trans hc2
      clear ho2 hc2
      cases tt with
      | false =>
        obtain ⟨mk, hmk⟩ : ∃ x, x = Bx.bookOut s a ke bb L := ⟨_, rfl⟩
        obtain ⟨mc, hmc⟩ : ∃ x, x = mk.map cellOf := ⟨_, rfl⟩
        have LM : Hid (mk.length = 32) := by unfold Hid; rw [hmk]; exact Bx.bookOut_length _ _ _ _ _ hGL
        obtain ⟨a1, ha1⟩ : ∃ x, x = Bx.bookAt a ke bb L := ⟨_, rfl⟩
        have HA1 : Hid (a1 ≤ a + 32) := by unfold Hid; rw [ha1]; exact at_le a ke bb L
        obtain ⟨N1, hN1⟩ : ∃ x, x = Bx.bookNext s a ke bb L := ⟨_, rfl⟩
        have hG1 : Bx.Good N1 := by rw [hN1]; exact Bx.bookNext_good _ _ _ _ _ hGL
        have EQ : Hid (∀ W, (Op.equalIn 10000 34 (.agg mc.toArray) (.agg mc.toArray)).run Tryd.prog W = .ok true W) := fun W => by rw [hmc, equal30 mk mk LM.out LM.out, sameB_self]
        have CX : Hid (∀ W, Gl W → P W gx (.ideal s a [] B L) M → Calls Tryd.prog 16 #[.pointer (some ⟨gx, 0, none⟩), .agg kc.toArray, .string ⟨bb.toArray⟩] W fun e w' => e = .returned (.agg mc.toArray) ∧ ∃ M1, P w' gx (.ideal s a1 [] B N1) M1 ∧ Fr M W w' ∧ ∀ b, M1 b → M b ∨ W.heap.size ≤ b) := fun W h1 h2 => by
          rw [HKC.out, hmc, hmk, ha1, hN1]
          refine (HB.out.lbI ke bb h1 (fun b hb => Nat.le_trans hsz (SD.out.mx b hb)) h2 (by omega) K32.out (by rw [RB.out.len]; omega)).mono ?_
          rintro e w' ⟨M1, he, hP, hF, hM⟩
          exact ⟨he, M1, hP, hF, hM⟩
        have CY : Hid (∀ (W : World) (l : List RNote) (v : Value), RefAt W w.heap.size gy s a l v → Alike l B L → l.length ≤ 900 → w.heap.size ≤ W.heap.size → Calls Tryd.prog 19 #[.pointer (some ⟨gy, 0, none⟩), .agg kc.toArray, .string ⟨bb.toArray⟩] W (fun e w' => ∃ l' v', e = .returned (.agg mc.toArray) ∧ RefAt w' w.heap.size gy s a1 l' v' ∧ l'.length ≤ l.length + 1 ∧ Alike l' B N1 ∧ (∀ q, v'.ownBlock = some q → v.ownBlock = some q ∨ W.heap.size ≤ q) ∧ Fr (fun x => x = gy ∨ some x = v.ownBlock) W w')) := fun W l v h1 h2 h3 h4 => by
          rw [HKC.out, hmc, hmk, ha1, hN1]
          exact rlabel_any ke h1 h2 hGL K32.out (by rw [RB.out.len]; omega) (by omega) (by omega) h4
        clear hmk hmc ha1 hN1 hGB hGL hG1
        go_upto_region 17 with (fail)
        clear cm hi2
        refine wp_region_any (by kernel_rfl) ?_
        change wpAny _ _ _ _ _ _ _ (World.drew _)
        replace SD : Hid (Sides P w wr.drew gx gy s a B L l v M) := ⟨HB.out.keep SD.out.x (Nat.le_refl _) (fun _ _ => rfl), SD.out.y.keep (Nat.le_refl _) rfl (fun _ _ => rfl), SD.out.al, SD.out.mx, SD.out.gn, SD.out.gl, SD.out.vn⟩
        replace W1 := Lib.hid W1.out.drew
        replace KB := Lib.hid KB.out.drew
        generalize wr.drew = z9 at *
        refine wpAny_take (i := 0) (oi := ?oi35) (v := .pointer (some ⟨gx, 0, none⟩)) ?hi35 (by kernel_rfl) (by kernel_rfl) (by kernel_rfl) ?hQ35 ?hy35 ?rest35
        case hi35 => simp only [List.getElem?_toArray, List.getElem?_cons_succ, List.getElem?_cons_zero]; rfl
        case hQ35 => exact fun _ _ _ h => h
        case hy35 => exact Or.inl ⟨by rfl, by intro w; go_simp⟩
        try simp only [Act.put, List.setIfInBounds_toArray, List.set_cons_zero, List.set_cons_succ]
        refine wpAny_take (i := 2) (oi := ?oi36) (v := .slice Ab m cb) ?hi36 (by kernel_rfl) (by kernel_rfl) (by kernel_rfl) ?hQ36 ?hy36 ?rest36
        case hi36 => simp only [List.getElem?_toArray, List.getElem?_cons_succ, List.getElem?_cons_zero]; rfl
        case hQ36 => exact fun _ _ _ h => h
        case hy36 => exact Or.inl ⟨by rfl, by intro w; go_simp⟩
        try simp only [Act.put, List.setIfInBounds_toArray, List.set_cons_zero, List.set_cons_succ]
        refine wpAny_take (i := 5) (oi := ?oi37) (v := .pointer (some ⟨gy, 0, none⟩)) ?hi37 (by kernel_rfl) (by kernel_rfl) (by kernel_rfl) ?hQ37 ?hy37 ?rest37
        case hi37 => simp only [List.getElem?_toArray, List.getElem?_cons_succ, List.getElem?_cons_zero]; rfl
        case hQ37 => exact fun _ _ _ h => h
        case hy37 => exact Or.inl ⟨by rfl, by intro w; go_simp⟩
        try simp only [Act.put, List.setIfInBounds_toArray, List.set_cons_zero, List.set_cons_succ]
        refine wpAny_take (i := 7) (oi := ?oi38) (v := .slice Ab m cb) ?hi38 (by kernel_rfl) (by kernel_rfl) (by kernel_rfl) ?hQ38 ?hy38 ?rest38
        case hi38 => simp only [List.getElem?_toArray, List.getElem?_cons_succ, List.getElem?_cons_zero]; rfl
        case hQ38 => exact fun _ _ _ h => h
        case hy38 => exact Or.inl ⟨by rfl, by intro w; go_simp⟩
        try simp only [Act.put, List.setIfInBounds_toArray, List.set_cons_zero, List.set_cons_succ]
        refine phaseL (fun i => if i = 4 then [1, 3] else []) (fun d a w' => ∃ x77 x79 x82 x84 x80 : Value, a = { tmps := #[.int .i64 s, .slice (some ⟨b1, f1, none⟩) n1 c1, .slice (some ⟨b2, f2, none⟩) n2 c2, undef, undef, undef, u6, .bool true, .pointer (some ⟨gx, 0, none⟩), .pointer (some ⟨gy, 0, none⟩), .int .i64 (k : Int), .slice Ab m cb, .pointer (some ⟨gk, 0, none⟩), .int .i64 (jj : Int), .bool true, .bool true, .bool false, .int .i64 s, .pointer (some ⟨t1, 0, none⟩), .pointer (some ⟨gx, 0, none⟩), .int .i64 s, .agg #[.int .i64 1, .int .i64 s, .int .i64 0, .slice none 0 0], .pointer (some ⟨gy, 0, none⟩), .int .i64 (k : Int), .slice (some ⟨b1, f1, none⟩) n1 c1, .int .i64 (n1 : Int), .bool true, .bool true, .int .i64 (k : Int), .bool true, .bool true, u31, u32, .slice (some ⟨b1, f1, none⟩) n1 c1, .int .i64 (k : Int), .pointer (some ⟨b1, o1, none⟩), .slice Ab nb cb, .slice Ab m cb, .slice Ab m cb, .int .i64 (m : Int), .int .u8 (m : Int), .agg kc.toArray, .int .i64 (jj : Int), .bool true, u44, u45, .int .i64 (k : Int), .slice (some ⟨b2, f2, none⟩) n2 c2, .int .i64 (n2 : Int), .bool true, .bool true, .slice (some ⟨b2, f2, none⟩) n2 c2, .int .i64 (k : Int), .pointer (some ⟨b2, o2, none⟩), .bool false, .bool false, u56, u57, u58, u59, u60, u61, u62, u63, u64, u65, u66, u67, u68, u69, u70, u71, u72, u73, u74, u75, .pointer (some ⟨gx, 0, none⟩), x77, .slice Ab m cb, x79, x80, .pointer (some ⟨gy, 0, none⟩), x82, .slice Ab m cb, x84, u85, u86], defers := [] } ∧ Hid (Blk w' gk 34 kc) ∧ Hid (Below w.heap.size w w') ∧ (d 1 = true → x77 = .agg kc.toArray) ∧ (d 3 = true → x79 = .string ⟨bb.toArray⟩) ∧ (d 6 = true → x82 = .agg kc.toArray) ∧ (d 8 = true → x84 = .string ⟨bb.toArray⟩) ∧ (d 4 = false → w' = z9) ∧ (d 4 = true → x80 = .agg mc.toArray ∧ Hid (∃ M1, P w' gx (.ideal s a1 [] B N1) M1 ∧ Fr M z9 w' ∧ ∀ b, M1 b → M b ∨ z9.heap.size ≤ b))) [1, 3, 6, 8, 4] ?step39 2 5 [1, 3, 6, 8, 4] _ _ _ rfl (by decide) (fun _ h => h) (Fits.of (by kernel_rfl)) ?init39 ?fin39
        case init39 => refine ⟨_, _, _, _, _, rfl, KB, W1, ?_, ?_, ?_, ?_, fun _ => rfl, ?_⟩ <;> (intro h; exact absurd h (by decide))
        case step39 =>
          intro i hi d a v39 hI hdi hdeps
          obtain ⟨x77, x79, x82, x84, x80, rfl, BK, BW, h1, h3, h6, h8, hW, hP⟩ := hI
          simp only [List.mem_cons, List.not_mem_nil, or_false] at hi
          rcases hi with rfl | rfl | rfl | rfl | rfl
          · refine wpOp_step (o := ?os40) ?hos40 (fun K hK => ?_)
            case hos40 => simp only [List.getElem?_toArray, List.getElem?_cons_succ, List.getElem?_cons_zero]; rfl
            refine step_loadW rfl 34 (.tmp 12) rfl gk 0 rfl kc _ Tryd.underlying34 rfl IK.out BK.out.cells (hK _ _ ?_)
            clear hK K
            try simp only [Act.put, List.setIfInBounds_toArray, List.set_cons_zero, List.set_cons_succ]
            exact ⟨_, _, _, _, _, rfl, BK, BW, fun _ => rfl, fun a => by first | exact h3 (by simpa using a) | rfl, fun a => by first | exact h6 (by simpa using a) | rfl, fun a => by first | exact h8 (by simpa using a) | rfl, fun h => hW (by simpa using h), fun h => hP (by simpa using h)⟩
          · have hcv := conv_bytes (RB.out.below BW.out)
            refine wpOp_step (o := ?os41) ?hos41 (fun K hK => ?_)
            case hos41 => simp only [List.getElem?_toArray, List.getElem?_cons_succ, List.getElem?_cons_zero]; rfl
            go_simp
            refine hK _ _ ?_
            clear hK K
            try simp only [Act.put, List.setIfInBounds_toArray, List.set_cons_zero, List.set_cons_succ]
            exact ⟨_, _, _, _, _, rfl, BK, BW, fun a => by first | exact h1 (by simpa using a) | rfl, fun _ => rfl, fun a => by first | exact h6 (by simpa using a) | rfl, fun a => by first | exact h8 (by simpa using a) | rfl, fun h => hW (by simpa using h), fun h => hP (by simpa using h)⟩
          · refine wpOp_step (o := ?os42) ?hos42 (fun K hK => ?_)
            case hos42 => simp only [List.getElem?_toArray, List.getElem?_cons_succ, List.getElem?_cons_zero]; rfl
            refine step_loadW rfl 34 (.tmp 12) rfl gk 0 rfl kc _ Tryd.underlying34 rfl IK.out BK.out.cells (hK _ _ ?_)
            clear hK K
            try simp only [Act.put, List.setIfInBounds_toArray, List.set_cons_zero, List.set_cons_succ]
            exact ⟨_, _, _, _, _, rfl, BK, BW, fun a => by first | exact h1 (by simpa using a) | rfl, fun a => by first | exact h3 (by simpa using a) | rfl, fun _ => rfl, fun a => by first | exact h8 (by simpa using a) | rfl, fun h => hW (by simpa using h), fun h => hP (by simpa using h)⟩
          · have hcv := conv_bytes (RB.out.below BW.out)
            refine wpOp_step (o := ?os43) ?hos43 (fun K hK => ?_)
            case hos43 => simp only [List.getElem?_toArray, List.getElem?_cons_succ, List.getElem?_cons_zero]; rfl
            go_simp
            refine hK _ _ ?_
            clear hK K
            try simp only [Act.put, List.setIfInBounds_toArray, List.set_cons_zero, List.set_cons_succ]
            exact ⟨_, _, _, _, _, rfl, BK, BW, fun a => by first | exact h1 (by simpa using a) | rfl, fun a => by first | exact h3 (by simpa using a) | rfl, fun a => by first | exact h6 (by simpa using a) | rfl, fun _ => rfl, fun h => hW (by simpa using h), fun h => hP (by simpa using h)⟩
          · have hv := hW hdi
            subst hv
            obtain rfl := h1 (hdeps 1 (by simp))
            obtain rfl := h3 (hdeps 3 (by simp))
            refine wpOp_step (o := ?os44) ?hos44 (fun K hK => ?_)
            case hos44 => simp only [List.getElem?_toArray, List.getElem?_cons_succ, List.getElem?_cons_zero]; rfl
            go_simp
            refine (CX.out _ (HG.out.below BW.out hsz) SD.out.x).mono ?_
            rintro e u_39 ⟨rfl, M1, hP1, hF1, hM1⟩
            refine hK _ _ ?_
            clear hK K
            try simp only [Act.put, List.setIfInBounds_toArray, List.set_cons_zero, List.set_cons_succ]
            exact ⟨_, _, _, _, _, rfl, hF1.blk BK.out GK.out.1, hF1.below BW.out SD.out.mx BW.out.size, fun a => by first | exact h1 (by simpa using a) | rfl, fun a => by first | exact h3 (by simpa using a) | rfl, fun a => by first | exact h6 (by simpa using a) | rfl, fun a => by first | exact h8 (by simpa using a) | rfl, fun h => absurd h (by simp), fun _ => ⟨rfl, ⟨M1, hP1, hF1, hM1⟩⟩⟩
        case fin39 =>
          intro a v39 hI
          obtain ⟨x77, x79, x82, x84, x80, rfl, BK, BW, h1, h3, h6, h8, hW, hP⟩ := hI
          obtain rfl := h1 (by decide)
          obtain rfl := h3 (by decide)
          obtain rfl := h6 (by decide)
          obtain rfl := h8 (by decide)
          obtain ⟨rfl, hpost⟩ := hP (by decide)
          obtain ⟨M1, hP1, hF1, hM1⟩ := hpost.out
          have Y1 : Hid (RefAt v39 w.heap.size gy s a l v) := SD.out.y.keep hF1.size (hF1.block gy SD.out.y.blk.lt SD.out.gn) (fun q hq => hF1.block q (SD.out.vlt q hq).2 (SD.out.vn q hq))
          have MF : Hid ((∀ b, M1 b → w.heap.size ≤ b) ∧ ¬ M1 gy ∧ (∀ q, v.ownBlock = some q → ¬ M1 q) ∧ ¬ M1 gk) := by
            unfold Hid
            have hzs := W1.out.size
            refine ⟨fun b hb => ?_, fun h => ?_, fun q hq h => ?_, fun h => ?_⟩
            · rcases hM1 b hb with h | h
              · exact SD.out.mx b h
              · omega
            · rcases hM1 _ h with h | h
              · exact SD.out.gn h
              · have := SD.out.y.blk.lt
                omega
            · rcases hM1 _ h with h | h
              · exact SD.out.vn q hq h
              · have := (SD.out.vlt q hq).2
                omega
            · rcases hM1 _ h with h | h
              · exact GK.out.1 h
              · have := KB.out.lt
                omega
          have PX := Lib.hid hP1
          have hGLy := SD.out.gl
          replace W1 := Lib.hid BW.out
          replace KB := Lib.hid BK.out
          clear hpost hP1 hF1 hM1 hW hP BW BK
          try dsimp only
          refine wpAny_ready (rs := [9]) (by kernel_rfl) (by simp) ?_
          refine AllReady.cons (o := ?p45) ?q45 (fun K hK => ?_) AllReady.nil
          case q45 => simp only [List.getElem?_toArray, List.getElem?_cons_succ, List.getElem?_cons_zero]; rfl
          go_simp
          refine (CY.out _ l v Y1.out SD.out.al (by omega) W1.out.size).mono ?_
          rintro e z2 ⟨l2, v2, rfl, hR2, hl2', hal2, hq2, hF2⟩
          refine hK _ _ ?_
          clear hK K
          try simp only [Act.put, List.setIfInBounds_toArray, List.set_cons_zero, List.set_cons_succ]
          have GN : Hid (gk ≠ gy ∧ v.ownBlock ≠ some gk ∧ w.heap.size ≤ gk) := GK.out.2
          have VL : Hid (∀ q, v.ownBlock = some q → w.heap.size ≤ q) := fun q hq => (SD.out.vlt q hq).1
          have MFn : Hid ((∀ b, M1 b → w.heap.size ≤ b) ∧ ¬ M1 gy ∧ (∀ q, (v2).ownBlock = some q → ¬ M1 q) ∧ ¬ M1 gk) := ⟨MF.out.1, MF.out.2.1, fun q hq h => by
            rcases hq2 q hq with h' | h'
            · exact MF.out.2.2.1 q h' h
            · have := HB.out.lt PX.out h
              omega, MF.out.2.2.2⟩
          have GNn : Hid (gk ≠ gy ∧ (v2).ownBlock ≠ some gk ∧ w.heap.size ≤ gk) := ⟨GN.out.1, fun h => by
            rcases hq2 gk h with h' | h'
            · exact GN.out.2.1 h'
            · have := KB.out.lt
              omega, GN.out.2.2⟩
          have VLn : Hid (∀ q, (v2).ownBlock = some q → w.heap.size ≤ q) := fun q hq => by
            rcases hq2 q hq with h' | h'
            · exact VL.out q h'
            · have := W1.out.size
              omega
          replace PX : Hid (P z2 gx (.ideal s a1 [] B N1) M1) := HB.out.keep PX.out hF2.size (fun b hb => hF2.block b (HB.out.lt PX.out hb) (fun h => by
            rcases h with h | h
            · exact MF.out.2.1 (by rw [← h]; exact hb)
            · exact MF.out.2.2.1 b h.symm hb))
          replace W1 := Lib.hid (hF2.below W1.out (fun b hb => by rcases hb with hb | hb; rw [hb]; exact hGLy; exact VL.out b hb.symm) W1.out.size)
          replace KB := Lib.hid (hF2.blk KB.out (fun h => by rcases h with h | h; exact GN.out.1 h; exact GN.out.2.1 h.symm))
          have Y2 := Lib.hid hR2
          have AL2 := Lib.hid hal2
          replace MF := MFn
          replace GN := GNn
          replace VL := VLn
          have hee := EQ.out
          clear hR2 hal2 hq2 hF2 MFn GNn VLn Y1 CX CY
          refine wpAny_take (i := 10) (oi := ?oi46) (v := .bool false) ?hi46 (by kernel_rfl) (by kernel_rfl) (by kernel_rfl) ?hQ46 ?hy46 ?rest46
          case hi46 => simp only [List.getElem?_toArray, List.getElem?_cons_succ, List.getElem?_cons_zero]; rfl
          case hQ46 => exact fun _ _ _ h => h
          case hy46 => exact Or.inl ⟨by rfl, by intro w; go_simp⟩
          try simp only [Act.put, List.setIfInBounds_toArray, List.set_cons_zero, List.set_cons_succ]
          clear hee
          refine wpAny_done (by kernel_rfl) ?_ _
          go_wp2_with fail
          go_roundw
          case rel => exact ⟨jj + 1, a1, B, N1, l2, v2, M1, by omega, by go_num, by unfold Hid; have := HA1.out; omega, by unfold Hid; omega, ⟨PX.out, Y2.out, AL2.out, MF.out.1, MF.out.2.1, hGLy, MF.out.2.2.1⟩, W1, KB, ⟨MF.out.2.2.2, GN.out.1, GN.out.2.1, GN.out.2.2⟩⟩
          case measure => simp [intOf]; omega
      | true =>
        obtain ⟨mk, hmk⟩ : ∃ x, x = Bx.bookOut s a ke bb B := ⟨_, rfl⟩
        obtain ⟨mc, hmc⟩ : ∃ x, x = mk.map cellOf := ⟨_, rfl⟩
        have LM : Hid (mk.length = 32) := by unfold Hid; rw [hmk]; exact Bx.bookOut_length _ _ _ _ _ hGB
        obtain ⟨a1, ha1⟩ : ∃ x, x = Bx.bookAt a ke bb B := ⟨_, rfl⟩
        have HA1 : Hid (a1 ≤ a + 32) := by unfold Hid; rw [ha1]; exact at_le a ke bb B
        obtain ⟨N1, hN1⟩ : ∃ x, x = Bx.bookNext s a ke bb B := ⟨_, rfl⟩
        have hG1 : Bx.Good N1 := by rw [hN1]; exact Bx.bookNext_good _ _ _ _ _ hGB
        have EQ : Hid (∀ W, (Op.equalIn 10000 34 (.agg mc.toArray) (.agg mc.toArray)).run Tryd.prog W = .ok true W) := fun W => by rw [hmc, equal30 mk mk LM.out LM.out, sameB_self]
        have CX : Hid (∀ W, Gl W → P W gx (.ideal s a [] B L) M → Rd W Ab m cb bb → Calls Tryd.prog 14 #[.pointer (some ⟨gx, 0, none⟩), .agg kc.toArray, .slice Ab m cb] W fun e w' => e = .returned (.agg mc.toArray) ∧ ∃ M1, P w' gx (.ideal s a1 [] N1 L) M1 ∧ Fr M W w' ∧ ∀ b, M1 b → M b ∨ W.heap.size ≤ b) := fun W h1 h2 h3 => by
          rw [HKC.out, hmc, hmk, ha1, hN1]
          refine (HB.out.mkI ke h1 (fun b hb => Nat.le_trans hsz (SD.out.mx b hb)) h2 (by omega) K32.out h3 (fun y hy h0 hm' => by have q1 := RB.out.in_ h0 y hy; have q2 := SD.out.mx _ hm'; omega) (by omega)).mono ?_
          rintro e w' ⟨M1, he, hP, hF, hM⟩
          exact ⟨he, M1, hP, hF, hM⟩
        have CY : Hid (∀ (W : World) (l : List RNote) (v : Value), RefAt W w.heap.size gy s a l v → Alike l B L → l.length ≤ 900 → w.heap.size ≤ W.heap.size → w.heap.size ≤ gy → Rd W Ab m cb bb → Calls Tryd.prog 18 #[.pointer (some ⟨gy, 0, none⟩), .agg kc.toArray, .slice Ab m cb] W (fun e w' => ∃ l' v', e = .returned (.agg mc.toArray) ∧ RefAt w' w.heap.size gy s a1 l' v' ∧ l'.length ≤ l.length + 1 ∧ Alike l' N1 L ∧ (∀ q, v'.ownBlock = some q → v.ownBlock = some q ∨ W.heap.size ≤ q) ∧ Fr (fun x => x = gy ∨ some x = v.ownBlock) W w')) := fun W l v h1 h2 h3 h4 h5 h6 => by
          rw [HKC.out, hmc, hmk, ha1, hN1]
          exact rmark_any ke h1 h2 hGB K32.out h6 (by omega) (fun x hx h0 he => by have := RB.out.in_ h0 x hx; omega) (by omega) (by omega) h4
        have CZ : Hid (∀ (W : World) (l : List RNote) (v : Value), RefAt W w.heap.size gy s a1 l v → Alike l N1 L → l.length ≤ 900 → w.heap.size ≤ W.heap.size → w.heap.size ≤ gy → Rd W Ab m cb bb → Calls Tryd.prog 18 #[.pointer (some ⟨gy, 0, none⟩), .agg kc.toArray, .slice Ab m cb] W (fun e w' => ∃ l' v', e = .returned (.agg mc.toArray) ∧ RefAt w' w.heap.size gy s a1 l' v' ∧ l'.length ≤ l.length + 1 ∧ Alike l' N1 L ∧ (∀ q, v'.ownBlock = some q → v.ownBlock = some q ∨ W.heap.size ≤ q) ∧ Fr (fun x => x = gy ∨ some x = v.ownBlock) W w')) := fun W l v h1 h2 h3 h4 h5 h6 => by
          have := rmark_any ke h1 h2 hG1 K32.out h6 (by omega) (fun x hx h0 he => by have := RB.out.in_ h0 x hx; omega) (by have := HA1.out; omega) (by omega) h4
          rw [show Bx.bookOut s a1 ke bb N1 = mk by rw [hN1, again_out, hmk], show Bx.bookAt a1 ke bb N1 = a1 by rw [hN1, again_at], show Bx.bookNext s a1 ke bb N1 = N1 by rw [hN1, again_next]] at this
          rw [HKC.out, hmc]
          exact this
        have CI : Hid (∀ (W : World) (M1 : Nat → Prop), Gl W → P W gx (.ideal s a1 [] N1 L) M1 → Rd W Ab m cb bb → Calls Tryd.prog 15 #[.pointer (some ⟨gx, 0, none⟩), .agg kc.toArray, .slice Ab m cb, .agg mc.toArray] W fun e w' => e = .returned (.bool true) ∧ Below W.heap.size W w') := fun W M1 h1 h2 h3 => by
          have := HB.out.isI ke mk h1 h2 K32.out LM.out h3 (by omega)
          rw [show decide (Bx.lookB ke bb N1 = some mk) = true by rw [hN1, again_look, hmk]; simp] at this
          rw [HKC.out, hmc]
          exact this
        clear hmk hmc ha1 hN1 hGB hGL hG1
        go_upto_region 15 with (fail)
        clear cm hi2
        refine wp_region_any (by kernel_rfl) ?_
        change wpAny _ _ _ _ _ _ _ (World.drew _)
        replace SD : Hid (Sides P w wr.drew gx gy s a B L l v M) := ⟨HB.out.keep SD.out.x (Nat.le_refl _) (fun _ _ => rfl), SD.out.y.keep (Nat.le_refl _) rfl (fun _ _ => rfl), SD.out.al, SD.out.mx, SD.out.gn, SD.out.gl, SD.out.vn⟩
        replace W1 := Lib.hid W1.out.drew
        replace KB := Lib.hid KB.out.drew
        generalize wr.drew = z9 at *
        refine wpAny_take (i := 0) (oi := ?oi1) (v := .pointer (some ⟨gx, 0, none⟩)) ?hi1 (by kernel_rfl) (by kernel_rfl) (by kernel_rfl) ?hQ1 ?hy1 ?rest1
        case hi1 => simp only [List.getElem?_toArray, List.getElem?_cons_succ, List.getElem?_cons_zero]; rfl
        case hQ1 => exact fun _ _ _ h => h
        case hy1 => exact Or.inl ⟨by rfl, by intro w; go_simp⟩
        try simp only [Act.put, List.setIfInBounds_toArray, List.set_cons_zero, List.set_cons_succ]
        refine wpAny_take (i := 2) (oi := ?oi2) (v := .slice Ab m cb) ?hi2 (by kernel_rfl) (by kernel_rfl) (by kernel_rfl) ?hQ2 ?hy2 ?rest2
        case hi2 => simp only [List.getElem?_toArray, List.getElem?_cons_succ, List.getElem?_cons_zero]; rfl
        case hQ2 => exact fun _ _ _ h => h
        case hy2 => exact Or.inl ⟨by rfl, by intro w; go_simp⟩
        try simp only [Act.put, List.setIfInBounds_toArray, List.set_cons_zero, List.set_cons_succ]
        refine wpAny_take (i := 4) (oi := ?oi3) (v := .pointer (some ⟨gy, 0, none⟩)) ?hi3 (by kernel_rfl) (by kernel_rfl) (by kernel_rfl) ?hQ3 ?hy3 ?rest3
        case hi3 => simp only [List.getElem?_toArray, List.getElem?_cons_succ, List.getElem?_cons_zero]; rfl
        case hQ3 => exact fun _ _ _ h => h
        case hy3 => exact Or.inl ⟨by rfl, by intro w; go_simp⟩
        try simp only [Act.put, List.setIfInBounds_toArray, List.set_cons_zero, List.set_cons_succ]
        refine wpAny_take (i := 6) (oi := ?oi4) (v := .slice Ab m cb) ?hi4 (by kernel_rfl) (by kernel_rfl) (by kernel_rfl) ?hQ4 ?hy4 ?rest4
        case hi4 => simp only [List.getElem?_toArray, List.getElem?_cons_succ, List.getElem?_cons_zero]; rfl
        case hQ4 => exact fun _ _ _ h => h
        case hy4 => exact Or.inl ⟨by rfl, by intro w; go_simp⟩
        try simp only [Act.put, List.setIfInBounds_toArray, List.set_cons_zero, List.set_cons_succ]
        refine phaseL (fun i => if i = 3 then [1] else []) (fun d a w' => ∃ x57 x61 x59 : Value, a = { tmps := #[.int .i64 s, .slice (some ⟨b1, f1, none⟩) n1 c1, .slice (some ⟨b2, f2, none⟩) n2 c2, undef, undef, undef, u6, .bool true, .pointer (some ⟨gx, 0, none⟩), .pointer (some ⟨gy, 0, none⟩), .int .i64 (k : Int), .slice Ab m cb, .pointer (some ⟨gk, 0, none⟩), .int .i64 (jj : Int), .bool true, .bool true, .bool false, .int .i64 s, .pointer (some ⟨t1, 0, none⟩), .pointer (some ⟨gx, 0, none⟩), .int .i64 s, .agg #[.int .i64 1, .int .i64 s, .int .i64 0, .slice none 0 0], .pointer (some ⟨gy, 0, none⟩), .int .i64 (k : Int), .slice (some ⟨b1, f1, none⟩) n1 c1, .int .i64 (n1 : Int), .bool true, .bool true, .int .i64 (k : Int), .bool true, .bool true, u31, u32, .slice (some ⟨b1, f1, none⟩) n1 c1, .int .i64 (k : Int), .pointer (some ⟨b1, o1, none⟩), .slice Ab nb cb, .slice Ab m cb, .slice Ab m cb, .int .i64 (m : Int), .int .u8 (m : Int), .agg kc.toArray, .int .i64 (jj : Int), .bool true, u44, u45, .int .i64 (k : Int), .slice (some ⟨b2, f2, none⟩) n2 c2, .int .i64 (n2 : Int), .bool true, .bool true, .slice (some ⟨b2, f2, none⟩) n2 c2, .int .i64 (k : Int), .pointer (some ⟨b2, o2, none⟩), .bool true, .bool true, .pointer (some ⟨gx, 0, none⟩), x57, .slice Ab m cb, x59, .pointer (some ⟨gy, 0, none⟩), x61, .slice Ab m cb, u63, u64, u65, u66, u67, u68, u69, u70, u71, u72, u73, u74, u75, u76, u77, u78, u79, u80, u81, u82, u83, u84, u85, u86], defers := [] } ∧ Hid (Blk w' gk 34 kc) ∧ Hid (Below w.heap.size w w') ∧ (d 1 = true → x57 = .agg kc.toArray) ∧ (d 5 = true → x61 = .agg kc.toArray) ∧ (d 3 = false → w' = z9) ∧ (d 3 = true → x59 = .agg mc.toArray ∧ Hid (∃ M1, P w' gx (.ideal s a1 [] N1 L) M1 ∧ Fr M z9 w' ∧ ∀ b, M1 b → M b ∨ z9.heap.size ≤ b))) [1, 5, 3] ?step5 13 3 [1, 5, 3] _ _ _ rfl (by decide) (fun _ h => h) (Fits.of (by kernel_rfl)) ?init5 ?fin5
        case init5 => refine ⟨_, _, _, rfl, KB, W1, ?_, ?_, fun _ => rfl, ?_⟩ <;> (intro h; exact absurd h (by decide))
        case step5 =>
          intro i hi d a v5 hI hdi hdeps
          obtain ⟨x57, x61, x59, rfl, BK, BW, h1, h5, hW, hP⟩ := hI
          simp only [List.mem_cons, List.not_mem_nil, or_false] at hi
          rcases hi with rfl | rfl | rfl
          · refine wpOp_step (o := ?os6) ?hos6 (fun K hK => ?_)
            case hos6 => simp only [List.getElem?_toArray, List.getElem?_cons_succ, List.getElem?_cons_zero]; rfl
            refine step_loadW rfl 34 (.tmp 12) rfl gk 0 rfl kc _ Tryd.underlying34 rfl IK.out BK.out.cells (hK _ _ ?_)
            clear hK K
            try simp only [Act.put, List.setIfInBounds_toArray, List.set_cons_zero, List.set_cons_succ]
            exact ⟨_, _, _, rfl, BK, BW, fun _ => rfl, fun a => by first | exact h5 (by simpa using a) | rfl, fun h => hW (by simpa using h), fun h => hP (by simpa using h)⟩
          · refine wpOp_step (o := ?os7) ?hos7 (fun K hK => ?_)
            case hos7 => simp only [List.getElem?_toArray, List.getElem?_cons_succ, List.getElem?_cons_zero]; rfl
            refine step_loadW rfl 34 (.tmp 12) rfl gk 0 rfl kc _ Tryd.underlying34 rfl IK.out BK.out.cells (hK _ _ ?_)
            clear hK K
            try simp only [Act.put, List.setIfInBounds_toArray, List.set_cons_zero, List.set_cons_succ]
            exact ⟨_, _, _, rfl, BK, BW, fun a => by first | exact h1 (by simpa using a) | rfl, fun _ => rfl, fun h => hW (by simpa using h), fun h => hP (by simpa using h)⟩
          · have hv := hW hdi
            subst hv
            obtain rfl := h1 (hdeps 1 (by simp))
            refine wpOp_step (o := ?os8) ?hos8 (fun K hK => ?_)
            case hos8 => simp only [List.getElem?_toArray, List.getElem?_cons_succ, List.getElem?_cons_zero]; rfl
            go_simp
            refine (CX.out _ (HG.out.below BW.out hsz) SD.out.x (RB.out.below BW.out)).mono ?_
            rintro e u_5 ⟨rfl, M1, hP1, hF1, hM1⟩
            refine hK _ _ ?_
            clear hK K
            try simp only [Act.put, List.setIfInBounds_toArray, List.set_cons_zero, List.set_cons_succ]
            exact ⟨_, _, _, rfl, hF1.blk BK.out GK.out.1, hF1.below BW.out SD.out.mx BW.out.size, fun a => by first | exact h1 (by simpa using a) | rfl, fun a => by first | exact h5 (by simpa using a) | rfl, fun h => absurd h (by simp), fun _ => ⟨rfl, ⟨M1, hP1, hF1, hM1⟩⟩⟩
        case fin5 =>
          intro a v5 hI
          obtain ⟨x57, x61, x59, rfl, BK, BW, h1, h5, hW, hP⟩ := hI
          obtain rfl := h1 (by decide)
          obtain rfl := h5 (by decide)
          obtain ⟨rfl, hpost⟩ := hP (by decide)
          obtain ⟨M1, hP1, hF1, hM1⟩ := hpost.out
          have Y1 : Hid (RefAt v5 w.heap.size gy s a l v) := SD.out.y.keep hF1.size (hF1.block gy SD.out.y.blk.lt SD.out.gn) (fun q hq => hF1.block q (SD.out.vlt q hq).2 (SD.out.vn q hq))
          have MF : Hid ((∀ b, M1 b → w.heap.size ≤ b) ∧ ¬ M1 gy ∧ (∀ q, v.ownBlock = some q → ¬ M1 q) ∧ ¬ M1 gk) := by
            unfold Hid
            have hzs := W1.out.size
            refine ⟨fun b hb => ?_, fun h => ?_, fun q hq h => ?_, fun h => ?_⟩
            · rcases hM1 b hb with h | h
              · exact SD.out.mx b h
              · omega
            · rcases hM1 _ h with h | h
              · exact SD.out.gn h
              · have := SD.out.y.blk.lt
                omega
            · rcases hM1 _ h with h | h
              · exact SD.out.vn q hq h
              · have := (SD.out.vlt q hq).2
                omega
            · rcases hM1 _ h with h | h
              · exact GK.out.1 h
              · have := KB.out.lt
                omega
          have PX := Lib.hid hP1
          have hGLy := SD.out.gl
          replace W1 := Lib.hid BW.out
          replace KB := Lib.hid BK.out
          clear hpost hP1 hF1 hM1 hW hP BW BK
          try dsimp only
          refine wpAny_ready (rs := [7]) (by kernel_rfl) (by simp) ?_
          refine AllReady.cons (o := ?p9) ?q9 (fun K hK => ?_) AllReady.nil
          case q9 => simp only [List.getElem?_toArray, List.getElem?_cons_succ, List.getElem?_cons_zero]; rfl
          go_simp
          refine (CY.out _ l v Y1.out SD.out.al (by omega) W1.out.size hGLy (RB.out.below W1.out)).mono ?_
          rintro e z2 ⟨l2, v2, rfl, hR2, hl2', hal2, hq2, hF2⟩
          refine hK _ _ ?_
          clear hK K
          try simp only [Act.put, List.setIfInBounds_toArray, List.set_cons_zero, List.set_cons_succ]
          have GN : Hid (gk ≠ gy ∧ v.ownBlock ≠ some gk ∧ w.heap.size ≤ gk) := GK.out.2
          have VL : Hid (∀ q, v.ownBlock = some q → w.heap.size ≤ q) := fun q hq => (SD.out.vlt q hq).1
          have MFn : Hid ((∀ b, M1 b → w.heap.size ≤ b) ∧ ¬ M1 gy ∧ (∀ q, (v2).ownBlock = some q → ¬ M1 q) ∧ ¬ M1 gk) := ⟨MF.out.1, MF.out.2.1, fun q hq h => by
            rcases hq2 q hq with h' | h'
            · exact MF.out.2.2.1 q h' h
            · have := HB.out.lt PX.out h
              omega, MF.out.2.2.2⟩
          have GNn : Hid (gk ≠ gy ∧ (v2).ownBlock ≠ some gk ∧ w.heap.size ≤ gk) := ⟨GN.out.1, fun h => by
            rcases hq2 gk h with h' | h'
            · exact GN.out.2.1 h'
            · have := KB.out.lt
              omega, GN.out.2.2⟩
          have VLn : Hid (∀ q, (v2).ownBlock = some q → w.heap.size ≤ q) := fun q hq => by
            rcases hq2 q hq with h' | h'
            · exact VL.out q h'
            · have := W1.out.size
              omega
          replace PX : Hid (P z2 gx (.ideal s a1 [] N1 L) M1) := HB.out.keep PX.out hF2.size (fun b hb => hF2.block b (HB.out.lt PX.out hb) (fun h => by
            rcases h with h | h
            · exact MF.out.2.1 (by rw [← h]; exact hb)
            · exact MF.out.2.2.1 b h.symm hb))
          replace W1 := Lib.hid (hF2.below W1.out (fun b hb => by rcases hb with hb | hb; rw [hb]; exact hGLy; exact VL.out b hb.symm) W1.out.size)
          replace KB := Lib.hid (hF2.blk KB.out (fun h => by rcases h with h | h; exact GN.out.1 h; exact GN.out.2.1 h.symm))
          have Y2 := Lib.hid hR2
          have AL2 := Lib.hid hal2
          replace MF := MFn
          replace GN := GNn
          replace VL := VLn
          have hee := EQ.out
          clear hR2 hal2 hq2 hF2 MFn GNn VLn Y1 CX CY
          refine wpAny_take (i := 8) (oi := ?oi10) (v := .bool false) ?hi10 (by kernel_rfl) (by kernel_rfl) (by kernel_rfl) ?hQ10 ?hy10 ?rest10
          case hi10 => simp only [List.getElem?_toArray, List.getElem?_cons_succ, List.getElem?_cons_zero]; rfl
          case hQ10 => exact fun _ _ _ h => h
          case hy10 => exact Or.inl ⟨by rfl, by intro w; go_simp⟩
          try simp only [Act.put, List.setIfInBounds_toArray, List.set_cons_zero, List.set_cons_succ]
          refine wpAny_take (i := 9) (oi := ?oi11) (v := .bool false) ?hi11 (by kernel_rfl) (by kernel_rfl) (by kernel_rfl) ?hQ11 ?hy11 ?rest11
          case hi11 => simp only [List.getElem?_toArray, List.getElem?_cons_succ, List.getElem?_cons_zero]; rfl
          case hQ11 => exact fun _ _ _ h => h
          case hy11 => exact Or.inl ⟨by rfl, by intro w; go_simp⟩
          try simp only [Act.put, List.setIfInBounds_toArray, List.set_cons_zero, List.set_cons_succ]
          refine wpAny_take (i := 10) (oi := ?oi12) (v := .pointer (some ⟨gx, 0, none⟩)) ?hi12 (by kernel_rfl) (by kernel_rfl) (by kernel_rfl) ?hQ12 ?hy12 ?rest12
          case hi12 => simp only [List.getElem?_toArray, List.getElem?_cons_succ, List.getElem?_cons_zero]; rfl
          case hQ12 => exact fun _ _ _ h => h
          case hy12 => exact Or.inl ⟨by rfl, by intro w; go_simp⟩
          try simp only [Act.put, List.setIfInBounds_toArray, List.set_cons_zero, List.set_cons_succ]
          refine wpAny_take (i := 12) (oi := ?oi13) (v := .slice Ab m cb) ?hi13 (by kernel_rfl) (by kernel_rfl) (by kernel_rfl) ?hQ13 ?hy13 ?rest13
          case hi13 => simp only [List.getElem?_toArray, List.getElem?_cons_succ, List.getElem?_cons_zero]; rfl
          case hQ13 => exact fun _ _ _ h => h
          case hy13 => exact Or.inl ⟨by rfl, by intro w; go_simp⟩
          try simp only [Act.put, List.setIfInBounds_toArray, List.set_cons_zero, List.set_cons_succ]
          refine wpAny_take (i := 13) (oi := ?oi14) (v := .pointer (some ⟨gy, 0, none⟩)) ?hi14 (by kernel_rfl) (by kernel_rfl) (by kernel_rfl) ?hQ14 ?hy14 ?rest14
          case hi14 => simp only [List.getElem?_toArray, List.getElem?_cons_succ, List.getElem?_cons_zero]; rfl
          case hQ14 => exact fun _ _ _ h => h
          case hy14 => exact Or.inl ⟨by rfl, by intro w; go_simp⟩
          try simp only [Act.put, List.setIfInBounds_toArray, List.set_cons_zero, List.set_cons_succ]
          refine wpAny_take (i := 15) (oi := ?oi15) (v := .slice Ab m cb) ?hi15 (by kernel_rfl) (by kernel_rfl) (by kernel_rfl) ?hQ15 ?hy15 ?rest15
          case hi15 => simp only [List.getElem?_toArray, List.getElem?_cons_succ, List.getElem?_cons_zero]; rfl
          case hQ15 => exact fun _ _ _ h => h
          case hy15 => exact Or.inl ⟨by rfl, by intro w; go_simp⟩
          try simp only [Act.put, List.setIfInBounds_toArray, List.set_cons_zero, List.set_cons_succ]
          clear hee
          refine phaseL (fun i => if i = 16 then [14] else []) (fun d a w' => ∃ x67 x70 x72 : Value, a = { tmps := #[.int .i64 s, .slice (some ⟨b1, f1, none⟩) n1 c1, .slice (some ⟨b2, f2, none⟩) n2 c2, undef, undef, undef, u6, .bool true, .pointer (some ⟨gx, 0, none⟩), .pointer (some ⟨gy, 0, none⟩), .int .i64 (k : Int), .slice Ab m cb, .pointer (some ⟨gk, 0, none⟩), .int .i64 (jj : Int), .bool true, .bool true, .bool false, .int .i64 s, .pointer (some ⟨t1, 0, none⟩), .pointer (some ⟨gx, 0, none⟩), .int .i64 s, .agg #[.int .i64 1, .int .i64 s, .int .i64 0, .slice none 0 0], .pointer (some ⟨gy, 0, none⟩), .int .i64 (k : Int), .slice (some ⟨b1, f1, none⟩) n1 c1, .int .i64 (n1 : Int), .bool true, .bool true, .int .i64 (k : Int), .bool true, .bool true, u31, u32, .slice (some ⟨b1, f1, none⟩) n1 c1, .int .i64 (k : Int), .pointer (some ⟨b1, o1, none⟩), .slice Ab nb cb, .slice Ab m cb, .slice Ab m cb, .int .i64 (m : Int), .int .u8 (m : Int), .agg kc.toArray, .int .i64 (jj : Int), .bool true, u44, u45, .int .i64 (k : Int), .slice (some ⟨b2, f2, none⟩) n2 c2, .int .i64 (n2 : Int), .bool true, .bool true, .slice (some ⟨b2, f2, none⟩) n2 c2, .int .i64 (k : Int), .pointer (some ⟨b2, o2, none⟩), .bool true, .bool true, .pointer (some ⟨gx, 0, none⟩), .agg kc.toArray, .slice Ab m cb, .agg mc.toArray, .pointer (some ⟨gy, 0, none⟩), .agg kc.toArray, .slice Ab m cb, .agg mc.toArray, .bool false, .bool false, .pointer (some ⟨gx, 0, none⟩), x67, .slice Ab m cb, .pointer (some ⟨gy, 0, none⟩), x70, .slice Ab m cb, x72, u73, u74, u75, u76, u77, u78, u79, u80, u81, u82, u83, u84, u85, u86], defers := [] } ∧ Hid (Blk w' gk 34 kc) ∧ Hid (Below w.heap.size w w') ∧ (d 11 = true → x67 = .agg kc.toArray) ∧ (d 14 = true → x70 = .agg kc.toArray) ∧ (d 16 = false → w' = z2) ∧ (d 16 = true → x72 = .agg mc.toArray ∧ Hid (∃ l3 v3, RefAt w' w.heap.size gy s a1 l3 v3 ∧ l3.length ≤ l2.length + 1 ∧ Alike l3 N1 L ∧ (∀ q, v3.ownBlock = some q → v2.ownBlock = some q ∨ z2.heap.size ≤ q) ∧ Fr (fun x => x = gy ∨ some x = v2.ownBlock) z2 w'))) [11, 14, 16] ?step16 3 3 [11, 14, 16] _ _ _ rfl (by decide) (fun _ h => h) (Fits.of (by kernel_rfl)) ?init16 ?fin16
          case init16 => refine ⟨_, _, _, rfl, KB, W1, ?_, ?_, fun _ => rfl, ?_⟩ <;> (intro h; exact absurd h (by decide))
          case step16 =>
            intro i hi d a v16 hI hdi hdeps
            obtain ⟨x67, x70, x72, rfl, BK, BW, h11, h14, hW, hP⟩ := hI
            simp only [List.mem_cons, List.not_mem_nil, or_false] at hi
            rcases hi with rfl | rfl | rfl
            · refine wpOp_step (o := ?os17) ?hos17 (fun K hK => ?_)
              case hos17 => simp only [List.getElem?_toArray, List.getElem?_cons_succ, List.getElem?_cons_zero]; rfl
              refine step_loadW rfl 34 (.tmp 12) rfl gk 0 rfl kc _ Tryd.underlying34 rfl IK.out BK.out.cells (hK _ _ ?_)
              clear hK K
              try simp only [Act.put, List.setIfInBounds_toArray, List.set_cons_zero, List.set_cons_succ]
              exact ⟨_, _, _, rfl, BK, BW, fun _ => rfl, fun a => by first | exact h14 (by simpa using a) | rfl, fun h => hW (by simpa using h), fun h => hP (by simpa using h)⟩
            · refine wpOp_step (o := ?os18) ?hos18 (fun K hK => ?_)
              case hos18 => simp only [List.getElem?_toArray, List.getElem?_cons_succ, List.getElem?_cons_zero]; rfl
              refine step_loadW rfl 34 (.tmp 12) rfl gk 0 rfl kc _ Tryd.underlying34 rfl IK.out BK.out.cells (hK _ _ ?_)
              clear hK K
              try simp only [Act.put, List.setIfInBounds_toArray, List.set_cons_zero, List.set_cons_succ]
              exact ⟨_, _, _, rfl, BK, BW, fun a => by first | exact h11 (by simpa using a) | rfl, fun _ => rfl, fun h => hW (by simpa using h), fun h => hP (by simpa using h)⟩
            · have hv := hW hdi
              subst hv
              obtain rfl := h14 (hdeps 14 (by simp))
              refine wpOp_step (o := ?os19) ?hos19 (fun K hK => ?_)
              case hos19 => simp only [List.getElem?_toArray, List.getElem?_cons_succ, List.getElem?_cons_zero]; rfl
              go_simp
              refine (CZ.out _ l2 v2 Y2.out AL2.out (by omega) BW.out.size hGLy (RB.out.below BW.out)).mono ?_
              rintro e u_16 ⟨l3, v3, rfl, hR3, hl3, hal3, hq3, hF3⟩
              refine hK _ _ ?_
              clear hK K
              try simp only [Act.put, List.setIfInBounds_toArray, List.set_cons_zero, List.set_cons_succ]
              exact ⟨_, _, _, rfl, hF3.blk BK.out (fun h => by rcases h with h | h; exact GN.out.1 h; exact GN.out.2.1 h.symm), hF3.below BW.out (fun b hb => by rcases hb with hb | hb; rw [hb]; exact hGLy; exact VL.out b hb.symm) BW.out.size, fun a => by first | exact h11 (by simpa using a) | rfl, fun a => by first | exact h14 (by simpa using a) | rfl, fun h => absurd h (by simp), fun _ => ⟨rfl, ⟨l3, v3, hR3, hl3, hal3, hq3, hF3⟩⟩⟩
          case fin16 =>
            intro a v16 hI
            obtain ⟨x67, x70, x72, rfl, BK, BW, h11, h14, hW, hP⟩ := hI
            obtain rfl := h11 (by decide)
            obtain rfl := h14 (by decide)
            obtain ⟨rfl, hpost⟩ := hP (by decide)
            obtain ⟨l3, v3, hR3, hl3, hal3, hq3, hF3⟩ := hpost.out
            have MFn : Hid ((∀ b, M1 b → w.heap.size ≤ b) ∧ ¬ M1 gy ∧ (∀ q, (v3).ownBlock = some q → ¬ M1 q) ∧ ¬ M1 gk) := ⟨MF.out.1, MF.out.2.1, fun q hq h => by
              rcases hq3 q hq with h' | h'
              · exact MF.out.2.2.1 q h' h
              · have := HB.out.lt PX.out h
                omega, MF.out.2.2.2⟩
            have GNn : Hid (gk ≠ gy ∧ (v3).ownBlock ≠ some gk ∧ w.heap.size ≤ gk) := ⟨GN.out.1, fun h => by
              rcases hq3 gk h with h' | h'
              · exact GN.out.2.1 h'
              · have := KB.out.lt
                omega, GN.out.2.2⟩
            have VLn : Hid (∀ q, (v3).ownBlock = some q → w.heap.size ≤ q) := fun q hq => by
              rcases hq3 q hq with h' | h'
              · exact VL.out q h'
              · have := W1.out.size
                omega
            replace PX : Hid (P v16 gx (.ideal s a1 [] N1 L) M1) := HB.out.keep PX.out hF3.size (fun b hb => hF3.block b (HB.out.lt PX.out hb) (fun h => by
              rcases h with h | h
              · exact MF.out.2.1 (by rw [← h]; exact hb)
              · exact MF.out.2.2.1 b h.symm hb))
            replace Y2 := Lib.hid hR3
            replace AL2 := Lib.hid hal3
            replace W1 := Lib.hid BW.out
            replace KB := Lib.hid BK.out
            replace MF := MFn
            replace GN := GNn
            replace VL := VLn
            clear hpost hW hP BW BK hR3 hal3 hq3 hF3 MFn GNn VLn CZ
            try dsimp only
            refine wpAny_ready (rs := [17]) (by kernel_rfl) (by simp) ?_
            refine AllReady.cons (o := ?p20) ?q20 (fun K hK => ?_) AllReady.nil
            case q20 => simp only [List.getElem?_toArray, List.getElem?_cons_succ, List.getElem?_cons_zero]; rfl
            go_simp
            refine (CI.out _ M1 (HG.out.below W1.out hsz) PX.out (RB.out.below W1.out)).mono ?_
            rintro e z4 ⟨rfl, hX⟩
            refine hK _ _ ?_
            clear hK K
            try simp only [Act.put, List.setIfInBounds_toArray, List.set_cons_zero, List.set_cons_succ]
            replace PX := Lib.hid (HB.out.below PX.out hX)
            replace Y2 := Lib.hid (Y2.out.below hX)
            replace KB := Lib.hid (KB.out.below hX KB.out.lt)
            replace W1 := Lib.hid (W1.out.trans (hX.mono W1.out.size))
            clear hX CI
            refine wpAny_take (i := 18) (oi := ?oi21) (v := .bool false) ?hi21 (by kernel_rfl) (by kernel_rfl) (by kernel_rfl) ?hQ21 ?hy21 ?rest21
            case hi21 => simp only [List.getElem?_toArray, List.getElem?_cons_succ, List.getElem?_cons_zero]; rfl
            case hQ21 => exact fun _ _ _ h => h
            case hy21 => exact Or.inl ⟨by rfl, by intro w; go_simp⟩
            try simp only [Act.put, List.setIfInBounds_toArray, List.set_cons_zero, List.set_cons_succ]
            refine wpAny_take (i := 19) (oi := ?oi22) (v := .bool false) ?hi22 (by kernel_rfl) (by kernel_rfl) (by kernel_rfl) ?hQ22 ?hy22 ?rest22
            case hi22 => simp only [List.getElem?_toArray, List.getElem?_cons_succ, List.getElem?_cons_zero]; rfl
            case hQ22 => exact fun _ _ _ h => h
            case hy22 => exact Or.inl ⟨by rfl, by intro w; go_simp⟩
            try simp only [Act.put, List.setIfInBounds_toArray, List.set_cons_zero, List.set_cons_succ]
            refine wpAny_done (by kernel_rfl) ?_ _
            go_wp2_with fail
            go_roundw
            case rel => exact ⟨jj + 1, a1, N1, L, l3, v3, M1, by omega, by go_num, by unfold Hid; have := HA1.out; omega, by unfold Hid; omega, ⟨PX.out, Y2.out, AL2.out, MF.out.1, MF.out.2.1, hGLy, MF.out.2.2.1⟩, W1, KB, ⟨MF.out.2.2.2, GN.out.1, GN.out.2.1, GN.out.2.2⟩⟩
            case measure => simp [intOf]; omega
end Go.Proofs.YtpbfeobifpmjbaaDoor.boxBooks
