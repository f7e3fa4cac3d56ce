import Derived.Test.YtmidbpjdpakkoaaDoorSTaf
import Derived.Test.YtmidbpjdpakkoaaDoorSTnm
import Derived.Test.YtmidbpjdpakkoaaDoorSTpr
import Derived.Test.YtmidbpjdpakkoaaDoorSTu
import Derived.Test.YtmidbpjdpakkoaaDoorSTv
namespace Go.Proofs.YtmidbpjdpakkoaaDoor
set_option linter.unusedVariables false
set_option linter.unusedSimpArgs false
set_option maxRecDepth 100000
open Go.RowKit
structure RdZ (w : World) (A : Option Addr) (n c : Nat) (zs : List Int) : Prop where
  len : zs.length = n
  cap : n ≤ c
  max : c ≤ maxLen
  lo : ∀ z ∈ zs, -9223372036854775808 ≤ z ∧ z ≤ 9223372036854775807
  at_ : 0 < n → ∃ b off, A = some ⟨b, off, none⟩ ∧ b < w.heap.size ∧ ∀ j, j < n → w.cell? ⟨b, off + j, none⟩ = some (.int .i64 (zs.getD j 0))
theorem index_ints (b off n c k : Nat) (h : k < n) (W : World) (hn : n ≤ maxLen) : (Instr.indexAt 22 (.slice (some ⟨b, off, none⟩) n c) (.int .i64 (k : Int))).run Tryd.prog W = .ok (.pointer (some ⟨b, off + k, none⟩)) W := by
  have hel : Tryd.prog.elem 22 = 3 := by kernel_rfl
  obtain ⟨i0, hi, hsz⟩ : ∃ i0, Tryd.prog.info? 3 = some i0 ∧ i0.size = 1 := by
    have : (Tryd.prog.info? 3).map (·.size) = some 1 := by kernel_rfl
    cases hh : Tryd.prog.info? 3 with
    | none => rw [hh] at this; cases this
    | some i0 => rw [hh] at this; exact ⟨i0, rfl, by simpa using this⟩
  rw [run_indexAt_slice (P := Tryd.prog) W 22 ⟨b, off, none⟩ n c .i64 (k : Int) (by rw [hel]; exact Tryd.underlying22), if_pos ⟨by omega, by omega⟩, hel]
  simp [sizeOf, typeInfo, hi, hsz, add_plain]
set_option maxRecDepth 100000 in
set_option maxHeartbeats 2000000 in
theorem grown_any {w : World} (hg : Gl w) {A A' : Option Addr} {n c n' c' : Nat} {ks vs : List Int} (ha : RdZ w A n c ks) (hb : RdZ w A' n' c' vs) {most : Nat} (hm : most ≤ 100) :
    Calls Tryd.prog 15 #[.slice A n c, .slice A' n' c', .int .i64 (most : Int)] w fun e w' => ∃ g v l, e = .returned (.tuple #[.pointer (some ⟨g, 0, none⟩), v, .bool true]) ∧ w.heap.size ≤ g ∧ TreeAt w' g l ∧ Ow2 w' w.heap.size 47 64 v (pairs l) ∧ l.length ≤ most ∧ Below w.heap.size w w' := by
  have hsz := hg.size
  have HG := Lib.hid hg
  have HA := Lib.hid ha
  have HB := Lib.hid hb
  have hnm : n ≤ maxLen := Nat.le_trans ha.cap ha.max
  have hnm' : n' ≤ maxLen := Nat.le_trans hb.cap hb.max
  clear hg ha hb
  go_enter Tryd.func15, Tryd.ntmps15
  go_upto_region 2 with (go_at_call 25; refine (tnew_any w).mono ?_; rintro e w1 ⟨g, rfl, hT, hgw, hX⟩; have T1 := Lib.hid hT; have X1 := Lib.hid hX; clear hT hX)
  go_wp2_with fail
  go_loopw [10, 11] (fun lv iv wr => ∃ (m : Nat) (l : List Tm.P), m ≤ most ∧ iv = .int .i64 (m : Int) ∧ Hid (l.length ≤ m) ∧ Hid (TreeAt wr g l) ∧ Hid (Ow2 wr w.heap.size 47 64 lv (pairs l)) ∧ Hid (Below w.heap.size w wr)) (fun _ i _ => most - (intOf i).toNat)
  case atStart => exact ⟨0, [], Nat.zero_le _, rfl, Nat.le_refl _, T1, Ow2.empty _ _ _ _, X1⟩
  case round =>
    clear T1 X1 w1
    obtain ⟨m, l, hmm, rfl, HLN, T1, O1, W1⟩ := hrel
    obtain ⟨AL, cl, rfl, RL, _⟩ := O1.out.rd
    obtain ⟨nl, hnl⟩ : ∃ z, z = (pairs l).length := ⟨_, rfl⟩
    have HNL : Hid (nl = l.length) := by unfold Hid; rw [hnl]; simp [pairs]
    rw [← hnl] at RL ⊢
    have RL := Lib.hid RL
    have O1' : Hid (Ow2 wr w.heap.size 47 64 (.slice AL nl cl) (pairs l)) := by rw [hnl]; exact O1.out
    clear hnl O1
    have hlm : l.length ≤ most := by have := HLN.out; omega
    by_cases h1 : m < n
    case neg =>
      have d1 : decide ((m : Int) < (n : Int)) = false := decide_eq_false (by omega)
      go_wp2_with fail
      go_ret3
      exact ⟨g, _, l, rfl, hgw, T1.out, O1'.out, hlm, W1.out⟩
    have d1 : decide ((m : Int) < (n : Int)) = true := decide_eq_true (by omega)
    by_cases h2 : m < n'
    case neg =>
      have d2 : decide ((m : Int) < (n' : Int)) = false := decide_eq_false (by omega)
      go_wp2_with fail
      go_ret3
      exact ⟨g, _, l, rfl, hgw, T1.out, O1'.out, hlm, W1.out⟩
    have d2 : decide ((m : Int) < (n' : Int)) = true := decide_eq_true (by omega)
    by_cases h3 : m < most
    case neg =>
      have d3 : decide ((m : Int) < (most : Int)) = false := decide_eq_false (by omega)
      go_wp2_with fail
      go_ret3
      exact ⟨g, _, l, rfl, hgw, T1.out, O1'.out, hlm, W1.out⟩
    have d3 : decide ((m : Int) < (most : Int)) = true := decide_eq_true (by omega)
    obtain ⟨q1, f1, hA1, hq1, hc1⟩ := HA.out.at_ (by omega)
    obtain ⟨q2, f2, hA2, hq2, hc2⟩ := HB.out.at_ (by omega)
    have hc1 := hc1 m h1
    have hc2 := hc2 m h2
    have hi1 := fun W => index_ints q1 f1 n c m h1 W hnm
    have hi2 := fun W => index_ints q2 f2 n' c' m h2 W hnm'
    have hmem : ∀ (zs : List Int), m < zs.length → zs.getD m 0 ∈ zs := fun zs h => by rw [List.getD_eq_getElem?_getD, List.getElem?_eq_getElem h]; exact List.getElem_mem h
    have hz1 := HA.out.lo _ (hmem ks (by rw [HA.out.len]; exact h1))
    have hz2 := HB.out.lo _ (hmem vs (by rw [HB.out.len]; exact h2))
    obtain ⟨z1, hz1'⟩ : ∃ z, z = ks.getD m 0 := ⟨_, rfl⟩
    obtain ⟨z2, hz2'⟩ : ∃ z, z = vs.getD m 0 := ⟨_, rfl⟩
    rw [← hz1'] at hc1 hz1
    rw [← hz2'] at hc2 hz2
    obtain ⟨o1, ho1⟩ : ∃ o, o = f1 + m := ⟨_, rfl⟩
    obtain ⟨o2, ho2⟩ : ∃ o, o = f2 + m := ⟨_, rfl⟩
    rw [← ho1] at hi1 hc1
    rw [← ho2] at hi2 hc2
    subst hA1
    subst hA2
    have HC1 := Lib.hid hc1
    have HC2 := Lib.hid hc2
    have CN := Lib.hid fun W => nm_any z1 hz1.1 hz1.2 W
    have CS := Lib.hid fun W => sm_any z2 W
    have hl1 := nm_length z1
    have hl2 := sm_length z2
    have HBP : Hid (Tryd.prog.built 47 [(0, .agg ((nm z1).map cellOf).toArray), (1, .agg ((sm z2).map cellOf).toArray)] = some (leafL (nm z1, sm z2)).toArray) := builtPair (by simpa using hl1) (by simpa using hl2)
    have IP := Lib.hid (pair_size (p := (nm z1, sm z2)) hl1 hl2)
    have OP := Lib.hid (leafL_one (nm z1, sm z2))
    have LP : Hid ((List.replicate 64 (Value.int .u8 0)).length = (leafL (nm z1, sm z2)).length) := by unfold Hid; rw [leafL_length hl1 hl2]; rfl
    unfold hv at CN CS
    obtain ⟨NC, hNC⟩ : ∃ L, L = (nm z1).map cellOf := ⟨_, rfl⟩
    obtain ⟨SC, hSC⟩ : ∃ L, L = (sm z2).map cellOf := ⟨_, rfl⟩
    obtain ⟨PC, hPC⟩ : ∃ L, L = leafL (nm z1, sm z2) := ⟨_, rfl⟩
    rw [← hNC] at CN HBP
    rw [← hSC] at CS HBP
    rw [← hPC] at HBP IP OP LP
    have ENC := Lib.hid hNC
    have ESC := Lib.hid hSC
    have EPC := Lib.hid hPC
    clear hc1 hc2 hmem hz1' hz2' ho1 ho2 hNC hSC hPC hz1 hz2
    go_upto_region 6 with (fail)
    clear d1 d2 d3
    have W2 := Lib.hid W1.out.drew
    have T2 : Hid (TreeAt wr.drew g l) := T1.out.keep rfl (TrK.drew _)
    have O2 : Hid (Ow2 wr.drew w.heap.size 47 64 (.slice AL nl cl) (pairs l)) := O1'.out.keep fun _ _ => rfl
    refine wp_region_any (by kernel_rfl) ?_
    change wpAny _ _ _ _ _ _ _ (World.drew _)
    generalize wr.drew = wd at *
    clear W1 T1 O1' RL
    refine wpAny_take (i := 0) (oi := ?oi1) (v := .slice (some ⟨q1, f1, none⟩) n c) ?hi1 (by kernel_rfl) (by kernel_rfl) (by kernel_rfl) ?hQ1 ?hy1 ?rest1
    case hi1 => simp only [zge]; rfl
    case hQ1 => exact fun _ _ _ h => h
    case hy1 => exact Or.inl ⟨by rfl, by intro w; go_simp⟩
    try simp only [zpt]
    refine wpAny_take (i := 1) (oi := ?oi2) (v := .int .i64 (m : Int)) ?hi2 (by kernel_rfl) (by kernel_rfl) (by kernel_rfl) ?hQ2 ?hy2 ?rest2
    case hi2 => simp only [zge]; rfl
    case hQ2 => exact fun _ _ _ h => h
    case hy2 => exact Or.inl ⟨by rfl, by intro w; go_simp⟩
    try simp only [zpt]
    refine wpAny_take (i := 2) (oi := ?oi3) (v := .pointer (some ⟨q1, o1, none⟩)) ?hi3 (by kernel_rfl) (by kernel_rfl) (by kernel_rfl) ?hQ3 ?hy3 ?rest3
    case hi3 => simp only [zge]; rfl
    case hQ3 => exact fun _ _ _ h => h
    case hy3 => exact Or.inl ⟨by rfl, by intro w; go_simp⟩
    try simp only [zpt]
    refine wpAny_take (i := 5) (oi := ?oi4) (v := .slice (some ⟨q2, f2, none⟩) n' c') ?hi4 (by kernel_rfl) (by kernel_rfl) (by kernel_rfl) ?hQ4 ?hy4 ?rest4
    case hi4 => simp only [zge]; rfl
    case hQ4 => exact fun _ _ _ h => h
    case hy4 => exact Or.inl ⟨by rfl, by intro w; go_simp⟩
    try simp only [zpt]
    refine wpAny_take (i := 6) (oi := ?oi5) (v := .int .i64 (m : Int)) ?hi5 (by kernel_rfl) (by kernel_rfl) (by kernel_rfl) ?hQ5 ?hy5 ?rest5
    case hi5 => simp only [zge]; rfl
    case hQ5 => exact fun _ _ _ h => h
    case hy5 => exact Or.inl ⟨by rfl, by intro w; go_simp⟩
    try simp only [zpt]
    refine wpAny_take (i := 7) (oi := ?oi6) (v := .pointer (some ⟨q2, o2, none⟩)) ?hi6 (by kernel_rfl) (by kernel_rfl) (by kernel_rfl) ?hQ6 ?hy6 ?rest6
    case hi6 => simp only [zge]; rfl
    case hQ6 => exact fun _ _ _ h => h
    case hy6 => exact Or.inl ⟨by rfl, by intro w; go_simp⟩
    try simp only [zpt]
    refine phaseL (fun i => if i = 4 then [3] else if i = 9 then [8, 4] else if i = 10 then [4, 9] else []) (fun d a w' => ∃ x35 x36 x40 x41 x42 x12 : Value, a = { tmps := #[.slice (some ⟨q1, f1, none⟩) n c, .slice (some ⟨q2, f2, none⟩) n' c', .int .i64 (most : Int), undef, undef, undef, u6, u7, u8, .pointer (some ⟨g, 0, none⟩), .slice AL nl cl, .int .i64 (m : Int), x12, u13, .pointer (some ⟨g, 0, none⟩), .int .i64 (m : Int), .slice (some ⟨q1, f1, none⟩) n c, .int .i64 (n : Int), .bool true, .bool true, .int .i64 (m : Int), .slice (some ⟨q2, f2, none⟩) n' c', .int .i64 (n' : Int), .bool true, .bool true, .bool true, .int .i64 (m : Int), .int .i64 (most : Int), .bool true, .bool true, u30, u31, .slice (some ⟨q1, f1, none⟩) n c, .int .i64 (m : Int), .pointer (some ⟨q1, o1, none⟩), x35, x36, .slice (some ⟨q2, f2, none⟩) n' c', .int .i64 (m : Int), .pointer (some ⟨q2, o2, none⟩), x40, x41, x42, u43, u44, u45, u46, u47, u48, u49, u50, u51, u52, u53, u54, u55, u56, u57, u58, u59, u60, undef, undef], defers := [] } ∧ Hid (Below wd.heap.size wd w') ∧ (d 3 = true → x35 = .int .i64 z1) ∧ (d 4 = true → x36 = .agg NC.toArray) ∧ (d 8 = true → x40 = .int .i64 z2) ∧ (d 9 = true → x41 = .agg SC.toArray) ∧ (d 10 = true → x42 = .agg PC.toArray) ∧ (d 11 = true → Hid (At w' wd.heap.size x12 47 (List.replicate 64 (Value.int .u8 0))))) [3, 4, 8, 9, 10, 11] ?step7 1 6 [3, 4, 8, 9, 10, 11] _ _ _ rfl (by decide) (fun _ h => h) (Fits.of (by kernel_rfl)) ?init7 ?fin7
    case init7 => refine ⟨_, _, _, _, _, _, rfl, Below.refl _ _, ?_, ?_, ?_, ?_, ?_, ?_⟩ <;> (intro h; exact absurd h (by decide))
    case step7 =>
      intro i hi d a v7 hI hdi hdeps
      obtain ⟨x35, x36, x40, x41, x42, x12, rfl, BW, h3, h4, h8, h9, h10, h11⟩ := hI
      have hsw := BW.out.size
      simp only [List.mem_cons, List.not_mem_nil, or_false] at hi
      rcases hi with rfl | rfl | rfl | rfl | rfl | rfl
      · have c0 : v7.cell? ⟨q1, o1, none⟩ = some (.int .i64 z1) := (World.cell?_of_block (a := ⟨q1, o1, none⟩) ((W2.out.trans (BW.out.mono W2.out.size)).block q1 hq1)).trans HC1.out
        refine wpOp_step (o := ?os8) ?hos8 (fun K hK => ?_)
        case hos8 => simp only [zge]; rfl
        go_simp
        refine hK _ _ ?_
        clear hK K
        try simp only [zpt]
        exact ⟨_, _, _, _, _, _, rfl, BW, fun _ => rfl, fun a => by first | exact h4 (by simpa using a) | rfl, fun a => by first | exact h8 (by simpa using a) | rfl, fun a => by first | exact h9 (by simpa using a) | rfl, fun a => by first | exact h10 (by simpa using a) | rfl, fun a => h11 (by simpa using a)⟩
      · obtain rfl := h3 (hdeps 3 (by simp))
        refine wpOp_step (o := ?os9) ?hos9 (fun K hK => ?_)
        case hos9 => simp only [zge]; rfl
        go_simp
        refine (CN.out v7).mono ?_
        rintro e u7 ⟨rfl, hX⟩
        refine hK _ _ ?_
        clear hK K
        try simp only [zpt]
        exact ⟨_, _, _, _, _, _, rfl, BW.out.trans (hX.mono hsw), fun a => by first | exact h3 (by simpa using a) | rfl, fun _ => rfl, fun a => by first | exact h8 (by simpa using a) | rfl, fun a => by first | exact h9 (by simpa using a) | rfl, fun a => by first | exact h10 (by simpa using a) | rfl, fun a => (h11 (by simpa using a)).out.below hX⟩
      · have c0 : v7.cell? ⟨q2, o2, none⟩ = some (.int .i64 z2) := (World.cell?_of_block (a := ⟨q2, o2, none⟩) ((W2.out.trans (BW.out.mono W2.out.size)).block q2 hq2)).trans HC2.out
        refine wpOp_step (o := ?os10) ?hos10 (fun K hK => ?_)
        case hos10 => simp only [zge]; rfl
        go_simp
        refine hK _ _ ?_
        clear hK K
        try simp only [zpt]
        exact ⟨_, _, _, _, _, _, rfl, BW, fun a => by first | exact h3 (by simpa using a) | rfl, fun a => by first | exact h4 (by simpa using a) | rfl, fun _ => rfl, fun a => by first | exact h9 (by simpa using a) | rfl, fun a => by first | exact h10 (by simpa using a) | rfl, fun a => h11 (by simpa using a)⟩
      · obtain rfl := h8 (hdeps 8 (by simp))
        refine wpOp_step (o := ?os11) ?hos11 (fun K hK => ?_)
        case hos11 => simp only [zge]; rfl
        go_simp
        refine (CS.out v7).mono ?_
        rintro e u7 ⟨rfl, hX⟩
        refine hK _ _ ?_
        clear hK K
        try simp only [zpt]
        exact ⟨_, _, _, _, _, _, rfl, BW.out.trans (hX.mono hsw), fun a => by first | exact h3 (by simpa using a) | rfl, fun a => by first | exact h4 (by simpa using a) | rfl, fun a => by first | exact h8 (by simpa using a) | rfl, fun _ => rfl, fun a => by first | exact h10 (by simpa using a) | rfl, fun a => (h11 (by simpa using a)).out.below hX⟩
      · obtain rfl := h4 (hdeps 4 (by simp))
        obtain rfl := h9 (hdeps 9 (by simp))
        refine wpOp_step (o := ?os12) ?hos12 (fun K hK => ?_)
        case hos12 => simp only [zge]; rfl
        refine step_build rfl 47 #[(0, .tmp 36), (1, .tmp 41)] rfl PC (by simp only [List.map_toArray, List.map_cons, List.map_nil]; exact HBP.out) (hK _ _ ?_)
        clear hK K
        try simp only [zpt]
        exact ⟨_, _, _, _, _, _, rfl, BW, fun a => by first | exact h3 (by simpa using a) | rfl, fun a => by first | exact h4 (by simpa using a) | rfl, fun a => by first | exact h8 (by simpa using a) | rfl, fun a => by first | exact h9 (by simpa using a) | rfl, fun _ => rfl, fun a => h11 (by simpa using a)⟩
      · have hX := alloc_below v7 (.cells (List.replicate 64 (Value.int .u8 0)).toArray 47)
        refine wpOp_step (o := ?os13) ?hos13 (fun K hK => ?_)
        case hos13 => simp only [zge]; rfl
        go_simp
        refine hK _ _ ?_
        clear hK K
        try simp only [zpt]
        exact ⟨_, _, _, _, _, _, rfl, BW.out.trans (hX.mono hsw), fun a => by first | exact h3 (by simpa using a) | rfl, fun a => by first | exact h4 (by simpa using a) | rfl, fun a => by first | exact h8 (by simpa using a) | rfl, fun a => by first | exact h9 (by simpa using a) | rfl, fun a => by first | exact h10 (by simpa using a) | rfl, fun _ => At.new _ _ _ hsw⟩
    case fin7 =>
      intro a v7 hI
      obtain ⟨x35, x36, x40, x41, x42, x12, rfl, BW, h3, h4, h8, h9, h10, h11⟩ := hI
      obtain rfl := h3 (by decide)
      obtain rfl := h4 (by decide)
      obtain rfl := h8 (by decide)
      obtain rfl := h9 (by decide)
      obtain rfl := h10 (by decide)
      obtain ⟨pb, rfl, hpb, hQ⟩ := (h11 (by decide)).out
      have Q3 := Lib.hid hQ
      have W3 := Lib.hid (W2.out.trans (BW.out.mono W2.out.size))
      have T3 := Lib.hid (T2.out.low BW.out)
      have O3 := Lib.hid (O2.out.below BW.out)
      have hpl := hQ.lt
      have how : ∀ q, (Value.slice AL nl cl).ownBlock = some q → q < pb := fun q hq => Nat.lt_of_lt_of_le (World.ownsRow.lt O2.out.own q hq).2 hpb
      have hgd := T2.out.lt
      have h2s := W2.out.size
      clear h11 hQ W2 T2 O2 BW CN CS
      try dsimp only
      refine wpAny_ready (rs := [12]) (by kernel_rfl) (by simp) ?_
      refine AllReady.cons (o := ?p14) ?q14 (fun K hK => ?_) AllReady.nil
      case q14 => simp only [zge]; rfl
      refine step_storeAll rfl 47 (.tmp 12) (.tmp 42) rfl pb rfl PC rfl 47 (List.replicate 64 (Value.int .u8 0)) Q3.out IP.out LP.out OP.out (hK _ _ ?_)
      clear hK K
      try simp only [zpt]
      have Q4 : Hid (Blk (v7.setRow pb PC.toArray) pb 47 PC) := Q3.out.row
      have W4 : Hid (Below w.heap.size w (v7.setRow pb PC.toArray)) := below_setRow W3.out (by omega) _
      have T4 : Hid (TreeAt (v7.setRow pb PC.toArray) g l) := T3.out.keep (setRow_other _ _ _ _ (by omega)) ⟨fun g' cs hb => hb.rowFar (fun e => by subst e; have h := Q3.out; unfold Blk at h hb; rw [hb] at h; injection h with h; injection h with _ h _; exact absurd h (by decide)) _, fun g' cs hb => hb.rowFar (fun e => by subst e; have h := Q3.out; unfold Blk at h hb; rw [hb] at h; injection h with h; injection h with _ h _; exact absurd h (by decide)) _⟩
      have O4 : Hid (Ow2 (v7.setRow pb PC.toArray) w.heap.size 47 64 (.slice AL nl cl) (pairs l)) := O3.out.keep fun q hq => setRow_other _ _ _ _ (by have := how q hq; omega)
      generalize v7.setRow pb PC.toArray = w4 at *
      clear Q3 W3 T3 O3 hpl how
      refine wpAny_done (by kernel_rfl) ?_ _
      have LN4 : Hid (∀ W, Blk W pb 47 PC → ∀ j y, NC[j]? = some y → W.cell? ⟨pb, 0 + j, none⟩ = some y) := fun W hb j y hy => by
        have hj : j < 32 := by have := (List.getElem?_eq_some_iff.1 hy).1; rw [ENC.out] at this; simpa [hl1] using this
        rw [Nat.zero_add, hb.cell, EPC.out, leafL, List.getElem?_append_left (by simpa [hl1] using hj), ← hy, ENC.out]
      have LS4 : Hid (∀ W, Blk W pb 47 PC → ∀ j y, SC[j]? = some y → W.cell? ⟨pb, 32 + j, none⟩ = some y) := fun W hb j y hy => by
        rw [hb.cell, EPC.out, leafL, List.getElem?_append_right (by simp [hl1]), List.length_map, hl1, Nat.add_sub_cancel_left, ← hy, ESC.out]
      have INC : Hid ((Tryd.prog.info? 30).map (·.size) = some NC.length) := by unfold Hid; rw [ENC.out]; exact hash_info hl1
      have ISC : Hid ((Tryd.prog.info? 30).map (·.size) = some SC.length) := by unfold Hid; rw [ESC.out]; exact hash_info hl2
      have CW := Lib.hid (rwith_any O4.out.rds.1 T4.out.fit.len (by have := HLN.out; have := HNL.out; omega) (p := (nm z1, sm z2)) hl1 hl2)
      rw [← EPC.out] at CW
      go_upto_region 9 with (first
        | (with_reducible refine load_law rfl 47 (.tmp 12) rfl pb 0 rfl PC _ Tryd.underlying47 rfl IP.out Q4.out.cells ?_)
        | (go_at_call 31; refine CW.out.mono ?_; rintro e w5 ⟨v5, rfl, hO, hX⟩; have O5 := Lib.hid hO; have X5 := Lib.hid hX; clear hO hX))
      obtain ⟨A5, c5, rfl, hRz, hAz⟩ := O5.out.rd
      clear hRz hAz
      obtain ⟨n5, hn5⟩ : ∃ z, z = (pairs (Tm.put (nm z1, sm z2) l)).length := ⟨_, rfl⟩
      rw [← hn5] at O5 ⊢
      have hn5' : n5 = (Tm.put (nm z1, sm z2) l).length := by rw [hn5]; simp [pairs]
      have hput := Tm.put_length (nm z1, sm z2) l
      obtain ⟨bb, hbb⟩ : ∃ b, b = !(Tm.get (nm z1) l).isSome := ⟨_, rfl⟩
      have dlen : decide ((nl : Int) < (n5 : Int)) = bb := by
        have hnl := HNL.out
        rw [hbb, hn5', hput, hnl]
        cases (Tm.get (nm z1) l).isSome <;> simp <;> omega
      have dN : decide (nl < n5) = bb := by rw [← dlen]; simp
      have dd : (!bb == decide (nl < n5)) = false := by rw [dN]; cases bb <;> rfl
      have HLEN5 : Hid ((Tm.put (nm z1, sm z2) l).length ≤ m + 1) := by have := (Tm.put_le (nm z1, sm z2) l).2.2; have := HLN.out; unfold Hid; omega
      have h45 := X5.out.size
      have T5 := Lib.hid (T4.out.low X5.out)
      have Q5 := Lib.hid (Q4.out.below X5.out Q4.out.lt)
      have h04 := W4.out.size
      have W5 := Lib.hid (W4.out.trans (X5.out.mono W4.out.size))
      have CP := Lib.hid (tput_any (HG.out.below W5.out hsz) T5.out (Nat.le_trans hsz hgw) (by have := HLN.out; omega) hl1 hl2)
      rw [← hbb] at CP
      unfold hv at CP
      rw [← ENC.out, ← ESC.out] at CP
      have LN5 := Lib.hid (LN4.out _ Q5.out)
      have LS5 := Lib.hid (LS4.out _ Q5.out)
      clear CW Q4 T4 O4 W4 hn5 hn5' hput hbb X5 LN4 LS4
      go_upto_if 58 with (first
        | (with_reducible refine load_law rfl 30 (.tmp 49) rfl pb 0 rfl NC _ Tryd.underlying30 rfl INC.out LN5.out ?_)
        | (with_reducible refine load_law rfl 30 (.tmp 51) rfl pb 32 rfl SC _ Tryd.underlying30 rfl ISC.out LS5.out ?_)
        | (go_at_call 26; refine CP.out.mono ?_; rintro e w6 ⟨rfl, hT, hG⟩; have T6 := Lib.hid hT; have G6 := Lib.hid hG; clear hT hG))
      obtain ⟨tp, hbt, _⟩ := T5.out.blk
      have O6 : Hid (Ow2 w6 w.heap.size 47 64 (.slice A5 n5 c5) (pairs (Tm.put (nm z1, sm z2) l))) := (O5.out.keep fun q hq => G6.out.block q (World.ownsRow.lt O5.out.own q hq).2 (fun e => O5.out.ne hbt (by decide) (by rw [hq, e]))).base h04
      have W6 : Hid (Below w.heap.size w w6) := W5.out.grown G6.out W5.out.size (fun q hq => by have h : g = q := Option.some.inj hq; omega)
      clear CP T5 Q5 W5 O5 G6 LN5 LS5 hbt
      go_wp2_with fail
      go_roundw
      case rel => exact ⟨m + 1, _, by omega, by go_num, HLEN5, T6, O6, W6⟩
      case measure => simp [intOf]; omega
end Go.Proofs.YtmidbpjdpakkoaaDoor
