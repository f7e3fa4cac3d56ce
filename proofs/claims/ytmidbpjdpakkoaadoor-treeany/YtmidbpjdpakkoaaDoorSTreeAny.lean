import Derived.Deep.DeepCutAuto
import Derived.Test.YtmidbpjdpakkoaaDoorSGrow
import Derived.Test.YtmidbpjdpakkoaaDoorSTbg
namespace Go.Proofs.YtmidbpjdpakkoaaDoor.treeAny
set_option linter.unusedVariables false
set_option linter.unusedSimpArgs false
set_option maxRecDepth 100000
open Go.RowKit
theorem index_part (b off n c k : Nat) (h : k < n) (W : World) : (Instr.indexAt 61 (.slice (some ⟨b, off, none⟩) n c) (.int .i64 (k : Int))).run Tryd.prog W = .ok (.pointer (some ⟨b, off + k, none⟩)) W := by
  obtain ⟨i0, hi, hsz⟩ : ∃ i0, Tryd.prog.info? 59 = some i0 ∧ i0.size = 1 := by
    have : (Tryd.prog.info? 59).map (·.size) = some 1 := by kernel_rfl
    cases hh : Tryd.prog.info? 59 with
    | none => rw [hh] at this; cases this
    | some i0 => rw [hh] at this; exact ⟨i0, rfl, by simpa using this⟩
  have hel : Tryd.prog.elem 61 = 59 := by kernel_rfl
  rw [run_indexAt_slice (P := Tryd.prog) W 61 ⟨b, off, none⟩ n c .i64 (k : Int) (by rw [hel]; exact Tryd.underlying61), if_pos ⟨by omega, by omega⟩, hel]
  simp [sizeOf, typeInfo, hi, hsz, add_plain]
theorem get_at {l : List Tm.P} (hf : l.Pairwise fun p q => p.1 ≠ q.1) {i : Nat} (hi : i < l.length) : Tm.get l[i].1 l = some l[i].2 := by
  induction l generalizing i with
  | nil => simp at hi
  | cons p l ih =>
    cases i with
    | zero => show Tm.get p.1 (p :: l) = some p.2; rw [Tm.get, if_pos rfl]
    | succ i =>
      have hi' : i < l.length := by simpa using hi
      have h := (List.pairwise_cons.1 hf)
      show Tm.get l[i].1 (p :: l) = some l[i].2
      rw [Tm.get, if_neg (h.1 _ (List.getElem_mem hi')), ih h.2 hi']
def PrfV (w : World) (x : Value) (p : Tm.Prf) : Prop := ∃ B, PrfAt w B x p
theorem PrfV.below {w w' : World} {x : Value} {p : Tm.Prf} (h : PrfV w x p) (hb : Below w.heap.size w w') : PrfV w' x p := by
  obtain ⟨B, h⟩ := h
  exact ⟨B, h.below hb⟩
set_option maxRecDepth 100000 in
set_option maxHeartbeats 8000000 in
theorem walk (hB : BegunOk) {A : Option Addr} {n c : Nat} {ps : List (List UInt8)} (w : World) (hg : Gl w) (hp : RdP w A n ps) (hnm : n ≤ maxLen) : Calls Tryd.prog 11 #[.slice A n c] w fun e w' => e = .returned (.bool true) ∧ Below w.heap.size w w' := by
  have HG := Lib.hid hg
  have hsz := hg.size
  have HP := Lib.hid hp
  have CG : Hid (∀ W, Below w.heap.size w W → Calls Tryd.prog 14 #[] W fun e w' => e = .returned (.bool true) ∧ Below W.heap.size W w') := fun W hW => hB (hg.below hW hsz)
  have BZ0 := Lib.hid zero_built
  have IZ := Lib.hid zero_info
  have OZ := Lib.hid zero_one
  have HZL : Hid ((List.replicate 32 (Value.int .u8 0)).length = 32) := rfl
  have HZN : Hid (Tm.none32.map cellOf = (List.replicate 32 (Value.int .u8 0))) := rfl
  have ZB0 : Hid (∀ W : World, Blk (W.alloc (.cells (List.replicate 32 (Value.int .u8 0)).toArray 30)) W.heap.size 30 (List.replicate 32 (Value.int .u8 0))) := fun W => Blk.new W 30 _
  have ZPB : Hid (∀ W : World, Blk (W.alloc (.cells (proofL (.slice none 0 0) false (List.replicate 32 (Value.int .u8 0)) (List.replicate 32 (Value.int .u8 0))).toArray 38)) W.heap.size 38 (proofL (.slice none 0 0) false (List.replicate 32 (Value.int .u8 0)) (List.replicate 32 (Value.int .u8 0)))) := fun W => Blk.new W 38 _
  have HZP : Hid ((proofL (.slice none 0 0) false (List.replicate 32 (Value.int .u8 0)) (List.replicate 32 (Value.int .u8 0))).length = 66) := rfl
  obtain ⟨Z, hZ⟩ : ∃ Z, Z = List.replicate 32 (Value.int .u8 0) := ⟨_, rfl⟩
  rw [← hZ] at BZ0 IZ OZ HZL HZN
  have ZB : Hid (∀ W : World, Blk (W.alloc (.cells (List.replicate 32 (Value.int .u8 0)).toArray 30)) W.heap.size 30 Z) := fun W => by rw [hZ]; exact ZB0.out W
  have HZE : Hid ((List.replicate 32 (Value.int .u8 0)) = Z) := hZ.symm
  obtain ⟨ZP, hZP⟩ : ∃ Z, Z = (proofL (.slice none 0 0) false (List.replicate 32 (Value.int .u8 0)) (List.replicate 32 (Value.int .u8 0))) := ⟨_, rfl⟩
  have ZPB' : Hid (∀ W : World, Blk (W.alloc (.cells (proofL (.slice none 0 0) false (List.replicate 32 (Value.int .u8 0)) (List.replicate 32 (Value.int .u8 0))).toArray 38)) W.heap.size 38 ZP) := fun W => by rw [hZP]; exact ZPB.out W
  have HZPE : Hid ((proofL (.slice none 0 0) false (List.replicate 32 (Value.int .u8 0)) (List.replicate 32 (Value.int .u8 0))) = ZP) := hZP.symm
  rw [← hZP] at HZP
  have W := Lib.hid (Below.refl w.heap.size w)
  clear hg hp hZ hZP ZB0 ZPB
  go_enter Tryd.func11, Tryd.ntmps11
  go_upto_region 4 with (first
    | (go_at_call 14; refine (CG.out w W.out).mono ?_; rintro e w1 ⟨rfl, hX⟩; replace W := Lib.hid (W.out.trans (hX.mono W.out.size)); clear hX))
  go_upto_region 5 with (first
    | (go_at_call 25; refine (tnew_any w1).mono ?_; rintro e w2 ⟨g, rfl, hT, hgw0, hX⟩; have hgw := Nat.le_trans W.out.size hgw0; replace W := Lib.hid (W.out.trans (hX.mono W.out.size)); have T := Lib.hid hT; clear hT hX hgw0))
  have O0 : Hid (Ow2 w2 w.heap.size 47 64 (.slice none 0 0) (pairs [])) := Ow2.empty _ _ _ _
  go_wp2_with fail
  go_loopw [5, 6] (fun lv iv wr => ∃ (m : Nat) (l : List Tm.P), m ≤ 8 ∧ iv = .int .i64 (m : Int) ∧ Hid (l.length ≤ m) ∧ Hid (TreeAt wr g l) ∧ Hid (Ow2 wr w.heap.size 47 64 lv (pairs l)) ∧ Hid (Below w.heap.size w wr)) (fun _ i _ => 8 - (intOf i).toNat)
  case atStart => exact ⟨0, [], Nat.zero_le _, rfl, Nat.le_refl _, T, O0, W⟩
  case round =>
    clear T O0 W
    obtain ⟨m, l, hmm, rfl, HLN, T, OL, W⟩ := hrel
    obtain ⟨AL, cl, hvl0, _, _⟩ := OL.out.rd
    obtain rfl := hvl0
    obtain ⟨nl, hnl⟩ : ∃ z, z = (pairs l).length := ⟨_, rfl⟩
    have HNL : Hid (nl = l.length) := by unfold Hid; rw [hnl]; simp [pairs]
    rw [← hnl] at OL ⊢
    clear hnl
    have hfit := T.out.fit
    by_cases h1 : m < n
    case neg =>
      have d1 : decide ((m : Int) < (n : Int)) = false := decide_eq_false (by omega)
      have hrl := Tm.root_length 0 l
      have hnl8 : nl ≤ 8 := by have := HNL.out; have := HLN.out; omega
      have CLN : Hid (∀ W, TreeAt W g l → Calls Tryd.prog 16 #[.pointer (some ⟨g, 0, none⟩)] W fun e w' => e = .returned (.int .i64 (nl : Int)) ∧ W = w') := fun W hT => by
        have := tlen_any hT
        rwa [← HNL.out] at this
      have CR : Hid (∀ W, TreeAt W g l → Calls Tryd.prog 17 #[.pointer (some ⟨g, 0, none⟩)] W fun e w' => e = .returned (hv (Tm.root 0 l)) ∧ Below W.heap.size W w') := fun W hT => troot_any hT
      have DR : Hid (∀ W, Rd2 W 64 AL nl cl (pairs l) → Calls Tryd.prog 18 #[.slice AL nl cl, .int .i64 0] W fun e w' => e = .returned (hv (Tm.root 0 l)) ∧ Below W.heap.size W w') := fun W hR => rroot_any 257 l 0 rfl hR hfit (by have := HLN.out; have := HNL.out; omega)
      have ER := Lib.hid (hash_eq (Tm.root 0 l) (Tm.root 0 l) hrl hrl)
      rw [decide_eq_true rfl] at ER
      have HRD : Hid (∀ W, Ow2 W w.heap.size 47 64 (.slice AL nl cl) (pairs l) → Rd2 W 64 AL nl cl (pairs l)) := fun W h => h.rds.1
      unfold hv at CR DR
      have IRC := Lib.hid (hash_info (hrl))
      have ORC := Lib.hid (cells_u8 (Tm.root 0 l))
      have LRC : Hid (Z.length = ((Tm.root 0 l).map cellOf).length) := by unfold Hid; rw [List.length_map, hrl, HZL.out]
      obtain ⟨RC, hRC⟩ : ∃ L, L = (Tm.root 0 l).map cellOf := ⟨_, rfl⟩
      have NRC : Hid (RC.length = 32) := by unfold Hid; rw [hRC, List.length_map, hrl]
      rw [← hRC] at IRC ORC LRC CR DR ER
      have ERC := Lib.hid hRC
      clear hRC
      have er := ER.out
      go_upto_region 15 with (first
        | (go_at_call 16; refine (CLN.out wr T.out).mono ?_; rintro e w4 ⟨rfl, rfl⟩; skip)
        | (go_at_call 17; refine (CR.out wr T.out).mono ?_; rintro e w4 ⟨rfl, hX⟩; replace T := Lib.hid (T.out.low hX); replace OL := Lib.hid (OL.out.below hX); replace W := Lib.hid (W.out.trans (hX.mono W.out.size)); clear hX)
        | (go_at_call 18; refine (DR.out w4 (HRD.out _ OL.out)).mono ?_; rintro e w5 ⟨rfl, hX⟩; replace T := Lib.hid (T.out.low hX); replace OL := Lib.hid (OL.out.below hX); replace W := Lib.hid (W.out.trans (hX.mono W.out.size)); clear hX))
      clear er ER CLN
      go_wp2_with fail
      go_loopw [8] (fun iv ws => ∃ k : Nat, k ≤ nl ∧ iv = .int .i64 (k : Int) ∧ Hid (TreeAt ws g l) ∧ Hid (Ow2 ws w.heap.size 47 64 (.slice AL nl cl) (pairs l)) ∧ Hid (Below w.heap.size w ws)) (fun i _ => nl - (intOf i).toNat)
      case atStart => exact ⟨0, Nat.zero_le _, rfl, T, OL, W⟩
      case round =>
        clear T OL W
        obtain ⟨k, hkk, rfl, T, OL, W⟩ := hrel
        by_cases h3 : k < nl
        case neg =>
          have d3 : decide ((k : Int) < (nl : Int)) = false := decide_eq_false (by omega)
          go_wp2_with fail
          go_ret
          exact ⟨rfl, W.out⟩
        have d3 : decide ((k : Int) < (nl : Int)) = true := decide_eq_true (by omega)
        have hkl : k < l.length := by rw [← HNL.out]; exact h3
        have hlk := hfit.len l[k] (List.getElem_mem hkl)
        obtain ⟨b2, off2, hA2, hb2, hkn, _, hc1, hc2⟩ := rd2_pair (HRD.out _ OL.out) hfit.len hkl
        have hri2 := fun W => index_pair b2 off2 nl cl k hkn W
        obtain ⟨o2, ho2⟩ : ∃ o, o = off2 + k * 64 := ⟨_, rfl⟩
        rw [← ho2] at hri2 hc1 hc2
        have LNA : Hid (∀ W, Ow2 W w.heap.size 47 64 (.slice AL nl cl) (pairs l) → ∀ y x, (l[k].1.map cellOf)[y]? = some x → W.cell? ⟨b2, o2 + y, none⟩ = some x) := fun W hO y x hx => by
          obtain ⟨b', off', hA', _, _, _, h1', _⟩ := rd2_pair (HRD.out W hO) hfit.len hkl
          rw [hA2] at hA'
          obtain ⟨e1, e2⟩ : b2 = b' ∧ off2 = off' := by simpa using hA'
          have := h1' y x hx
          rwa [← e1, ← e2, ← ho2] at this
        have LNS : Hid (∀ W, Ow2 W w.heap.size 47 64 (.slice AL nl cl) (pairs l) → ∀ y x, (l[k].2.map cellOf)[y]? = some x → W.cell? ⟨b2, o2 + 32 + y, none⟩ = some x) := fun W hO y x hx => by
          obtain ⟨b', off', hA', _, _, _, _, h1'⟩ := rd2_pair (HRD.out W hO) hfit.len hkl
          rw [hA2] at hA'
          obtain ⟨e1, e2⟩ : b2 = b' ∧ off2 = off' := by simpa using hA'
          have := h1' y x hx
          rwa [← e1, ← e2, ← ho2] at this
        subst hA2
        obtain ⟨P, hP⟩ : ∃ P, P = Tm.prove l l[k].1 := ⟨_, rfl⟩
        have hPI : ∀ W B x, PrfAt W B x P → PrfIn W x P := fun W B x h => by rw [hP] at h ⊢; exact prove_in hfit h
        have IA := Lib.hid (hash_info hlk.1)
        have CGT : Hid (∀ W, TreeAt W g l → Calls Tryd.prog 19 #[.pointer (some ⟨g, 0, none⟩), hv l[k].1] W fun e w' => e = .returned (.tuple #[hv l[k].2, .bool true]) ∧ Below W.heap.size W w') := fun W hT => by
          have := tget_any hT hlk.1
          rw [get_at hfit.ne hkl] at this
          exact this
        have CV : Hid (∀ W, TreeAt W g l → Calls Tryd.prog 21 #[.pointer (some ⟨g, 0, none⟩), hv l[k].1] W fun e w' => ∃ x, e = .returned x ∧ PrfV w' x P ∧ Below W.heap.size W w') := fun W hT => (tprove_any hT hlk.1).mono fun e w' ⟨x, h1, h2, h3⟩ => ⟨x, h1, ⟨_, by rw [hP]; exact h2⟩, h3⟩
        have DV : Hid (∀ W, Rd2 W 64 (some ⟨b2, off2, none⟩) nl cl (pairs l) → Calls Tryd.prog 22 #[.slice (some ⟨b2, off2, none⟩) nl cl, hv l[k].1] W fun e w' => ∃ x, e = .returned x ∧ PrfV w' x P ∧ Below W.heap.size W w') := fun W hR => (rprove_any hR hfit (by have := HLN.out; have := HNL.out; omega) hlk.1).mono fun e w' ⟨x, h1, h2, h3⟩ => ⟨x, h1, ⟨_, by rw [hP]; exact h2⟩, h3⟩
        have CE : Hid (∀ W x y, PrfV W x P → PrfV W y P → Calls Tryd.prog 24 #[x, y] W fun e w' => e = .returned (.bool true) ∧ Below W.heap.size W w') := fun W x y ⟨B, h⟩ ⟨B', h'⟩ => eqproof_same (hPI W B x h) (hPI W B' y h')
        have E0 := Lib.hid (hash_eq l[k].2 l[k].2 hlk.2 hlk.2)
        rw [decide_eq_true rfl] at E0
        unfold hv at CGT CV DV
        have IAC := Lib.hid (hash_info (hlk.1))
        have OAC := Lib.hid (cells_u8 (l[k].1))
        have LAC : Hid (Z.length = ((l[k].1).map cellOf).length) := by unfold Hid; rw [List.length_map, hlk.1, HZL.out]
        obtain ⟨AC, hAC⟩ : ∃ L, L = (l[k].1).map cellOf := ⟨_, rfl⟩
        have NAC : Hid (AC.length = 32) := by unfold Hid; rw [hAC, List.length_map, hlk.1]
        rw [← hAC] at IAC OAC LAC CGT CV DV LNA
        have EAC := Lib.hid hAC
        clear hAC
        have IMC := Lib.hid (hash_info (hlk.2))
        have OMC := Lib.hid (cells_u8 (l[k].2))
        have LMC : Hid (Z.length = ((l[k].2).map cellOf).length) := by unfold Hid; rw [List.length_map, hlk.2, HZL.out]
        obtain ⟨MC, hMC⟩ : ∃ L, L = (l[k].2).map cellOf := ⟨_, rfl⟩
        have NMC : Hid (MC.length = 32) := by unfold Hid; rw [hMC, List.length_map, hlk.2]
        rw [← hMC] at IMC OMC LMC CGT E0 LNS
        have EMC := Lib.hid hMC
        clear hMC
        have lna := LNA.out _ OL.out
        have HL1 := Lib.hid lna
        clear lna hc1 hc2 ho2 hPI hP hb2 IA
        go_upto_region 19 with (first
          | (with_reducible refine load_law rfl 30 (.tmp 65) rfl b2 o2 rfl AC _ Tryd.underlying30 rfl IAC.out HL1.out ?_)
          | (go_at_call 19; refine (CGT.out wr T.out).mono ?_; rintro e w8 ⟨rfl, hX⟩; replace T := Lib.hid (T.out.low hX); replace OL := Lib.hid (OL.out.below hX); replace W := Lib.hid (W.out.trans (hX.mono W.out.size)); clear hX)
          | ((with_reducible refine storeGen_law rfl 30 (.tmp 9) (.tmp 68) rfl w8.heap.size rfl MC rfl 30 Z IMC.out LMC.out OMC.out w8.heap.size w8 ?_ ?_ (Nat.le_refl _) ?_)
             · exact ZB.out w8
             · exact alloc_below w8 _
             intro w9 BS hX'; have hX := hX'.out; clear hX'; replace T := Lib.hid (T.out.low hX); replace OL := Lib.hid (OL.out.below hX); replace W := Lib.hid (W.out.trans (hX.mono W.out.size)); clear hX))
        obtain ⟨q1, hq1⟩ : ∃ q, q = w8.heap.size := ⟨_, rfl⟩
        rw [← hq1] at BS ⊢
        clear hq1 d3 HL1
        have hX := (Below.refl w9.heap.size w9).drew
        replace T := Lib.hid (T.out.low hX)
        replace OL := Lib.hid (OL.out.below hX)
        replace BS := Lib.hid (BS.out.below hX BS.out.lt)
        replace W := Lib.hid (W.out.trans (hX.mono W.out.size))
        clear hX
        refine wp_region_any (by kernel_rfl) ?_
        change wpAny _ _ _ _ _ _ _ (World.drew _)
        generalize w9.drew = wg at *
        refine wpAny_take (i := 0) (oi := ?oi22) (v := .bool true) ?hi22 (by kernel_rfl) (by kernel_rfl) (by kernel_rfl) ?hQ22 ?hy22 ?rest22
        case hi22 => simp only [zge]; rfl
        case hQ22 => exact fun _ _ _ h => h
        case hy22 => exact Or.inl ⟨by rfl, by intro w; go_simp⟩
        try simp only [zpt]
        refine wpAny_take (i := 1) (oi := ?oi23) (v := .bool false) ?hi23 (by kernel_rfl) (by kernel_rfl) (by kernel_rfl) ?hQ23 ?hy23 ?rest23
        case hi23 => simp only [zge]; rfl
        case hQ23 => exact fun _ _ _ h => h
        case hy23 => exact Or.inl ⟨by rfl, by intro w; go_simp⟩
        try simp only [zpt]
        refine wpAny_take (i := 2) (oi := ?oi24) (v := .bool false) ?hi24 (by kernel_rfl) (by kernel_rfl) (by kernel_rfl) ?hQ24 ?hy24 ?rest24
        case hi24 => simp only [zge]; rfl
        case hQ24 => exact fun _ _ _ h => h
        case hy24 => exact Or.inl ⟨by rfl, by intro w; go_simp⟩
        try simp only [zpt]
        refine wpAny_take (i := 4) (oi := ?oi25) (v := .slice (some ⟨b2, off2, none⟩) nl cl) ?hi25 (by kernel_rfl) (by kernel_rfl) (by kernel_rfl) ?hQ25 ?hy25 ?rest25
        case hi25 => simp only [zge]; rfl
        case hQ25 => exact fun _ _ _ h => h
        case hy25 => exact Or.inl ⟨by rfl, by intro w; go_simp⟩
        try simp only [zpt]
        refine wpAny_take (i := 5) (oi := ?oi26) (v := .int .i64 (k : Int)) ?hi26 (by kernel_rfl) (by kernel_rfl) (by kernel_rfl) ?hQ26 ?hy26 ?rest26
        case hi26 => simp only [zge]; rfl
        case hQ26 => exact fun _ _ _ h => h
        case hy26 => exact Or.inl ⟨by rfl, by intro w; go_simp⟩
        try simp only [zpt]
        refine wpAny_take (i := 6) (oi := ?oi27) (v := .pointer (some ⟨b2, o2, none⟩)) ?hi27 (by kernel_rfl) (by kernel_rfl) (by kernel_rfl) ?hQ27 ?hy27 ?rest27
        case hi27 => simp only [zge]; rfl
        case hQ27 => exact fun _ _ _ h => h
        case hy27 => exact Or.inl ⟨by rfl, by intro w; go_simp⟩
        try simp only [zpt]
        refine wpAny_take (i := 7) (oi := ?oi28) (v := .pointer (some ⟨b2, o2 + 32, none⟩)) ?hi28 (by kernel_rfl) (by kernel_rfl) (by kernel_rfl) ?hQ28 ?hy28 ?rest28
        case hi28 => simp only [zge]; rfl
        case hQ28 => exact fun _ _ _ h => h
        case hy28 => exact Or.inl ⟨by rfl, by intro w; go_simp⟩
        try simp only [zpt]
        refine phaseL (fun i => if i = 9 then [3, 8] else []) (fun d a w' => ∃ x73 x78 x79 : Value, a = { tmps := #[.slice A n c, undef, u2, .bool true, .pointer (some ⟨g, 0, none⟩), .slice (some ⟨b2, off2, none⟩) nl cl, .int .i64 (m : Int), u7, .int .i64 (k : Int), .pointer (some ⟨q1, 0, none⟩), .bool true, .bool true, .bool true, .bool false, .pointer (some ⟨g, 0, none⟩), .int .i64 (m : Int), .slice A n c, .int .i64 (n : Int), .bool false, .bool false, undef, undef, .bool false, u23, u24, u25, u26, u27, u28, u29, u30, u31, u32, u33, u34, u35, u36, u37, u38, u39, u40, u41, .pointer (some ⟨g, 0, none⟩), .int .i64 (nl : Int), .slice (some ⟨b2, off2, none⟩) nl cl, .int .i64 (nl : Int), .bool false, .bool false, .pointer (some ⟨g, 0, none⟩), .agg RC.toArray, .slice (some ⟨b2, off2, none⟩) nl cl, .agg RC.toArray, .bool false, .bool false, .int .i64 (k : Int), .slice (some ⟨b2, off2, none⟩) nl cl, .int .i64 (nl : Int), .bool true, u58, u59, .tuple #[.agg MC.toArray, .bool true], .pointer (some ⟨g, 0, none⟩), .slice (some ⟨b2, off2, none⟩) nl cl, .int .i64 (k : Int), .pointer (some ⟨b2, o2, none⟩), .pointer (some ⟨b2, o2, none⟩), .agg AC.toArray, .tuple #[.agg MC.toArray, .bool true], .agg MC.toArray, .bool true, .bool true, .bool false, .bool false, x73, .slice (some ⟨b2, off2, none⟩) nl cl, .int .i64 (k : Int), .pointer (some ⟨b2, o2, none⟩), .pointer (some ⟨b2, o2 + 32, none⟩), x78, x79, u80, u81, u82, u83, u84, u85, u86, u87, u88, u89, u90, u91, u92, u93, u94, u95, u96, u97, u98], defers := [] } ∧ Hid (Below wg.heap.size wg w') ∧ (d 3 = true → x73 = .agg MC.toArray) ∧ (d 8 = true → x78 = .agg MC.toArray) ∧ (d 9 = true → x79 = .bool false)) [3, 8, 9] ?step29 19 3 [3, 8, 9] _ _ _ rfl (by decide) (fun _ h => h) (Fits.of (by kernel_rfl)) ?init29 ?fin29
        case init29 => refine ⟨_, _, _, rfl, Below.refl _ _, ?_, ?_, ?_⟩ <;> (intro h; exact absurd h (by decide))
        case step29 =>
          intro i hi d a v29 hI hdi hdeps
          obtain ⟨x73, x78, x79, rfl, BW, h3, h8, h9⟩ := hI
          have hsw := BW.out.size
          simp only [List.mem_cons, List.not_mem_nil, or_false] at hi
          rcases hi with rfl | rfl | rfl
          · refine wpOp_step (o := ?os30) ?hos30 (fun K hK => ?_)
            case hos30 => simp only [zge]; rfl
            refine step_loadW (by kernel_rfl) 30 (.tmp 9) rfl q1 0 rfl MC _ Tryd.underlying30 rfl IMC.out (BS.out.below BW.out BS.out.lt |>.cells) (hK _ _ ?_)
            clear hK K
            try simp only [zpt]
            exact ⟨_, _, _, rfl, BW, fun _ => rfl, fun a => by first | exact h8 (by simpa using a) | rfl, fun a => by first | exact h9 (by simpa using a) | rfl⟩
          · refine wpOp_step (o := ?os31) ?hos31 (fun K hK => ?_)
            case hos31 => simp only [zge]; rfl
            refine step_loadW (by kernel_rfl) 30 (.tmp 77) rfl b2 (o2 + 32) rfl MC _ Tryd.underlying30 rfl IMC.out (LNS.out _ (OL.out.below BW.out)) (hK _ _ ?_)
            clear hK K
            try simp only [zpt]
            exact ⟨_, _, _, rfl, BW, fun a => by first | exact h3 (by simpa using a) | rfl, fun _ => rfl, fun a => by first | exact h9 (by simpa using a) | rfl⟩
          · obtain rfl := h3 (hdeps 3 (by simp))
            obtain rfl := h8 (hdeps 8 (by simp))
            have e0 := E0.out
            refine wpOp_step (o := ?os32) ?hos32 (fun K hK => ?_)
            case hos32 => simp only [zge]; rfl
            go_simp
            refine hK _ _ ?_
            clear hK K
            try simp only [zpt]
            exact ⟨_, _, _, rfl, BW, fun a => by first | exact h3 (by simpa using a) | rfl, fun a => by first | exact h8 (by simpa using a) | rfl, fun _ => rfl⟩
        case fin29 =>
          intro a v29 hI
          obtain ⟨x73, x78, x79, rfl, BW, h3, h8, h9⟩ := hI
          obtain rfl := h3 (by decide)
          obtain rfl := h8 (by decide)
          obtain rfl := h9 (by decide)
          clear h3 h8 h9
          have hX := BW.out
          replace T := Lib.hid (T.out.low hX)
          replace OL := Lib.hid (OL.out.below hX)
          replace BS := Lib.hid (BS.out.below hX BS.out.lt)
          replace W := Lib.hid (W.out.trans (hX.mono W.out.size))
          clear hX BW
          try dsimp only
          refine wpAny_take (i := 10) (oi := ?oi33) (v := .bool false) ?hi33 (by kernel_rfl) (by kernel_rfl) (by kernel_rfl) ?hQ33 ?hy33 ?rest33
          case hi33 => simp only [zge]; rfl
          case hQ33 => exact fun _ _ _ h => h
          case hy33 => exact Or.inl ⟨by rfl, by intro w; go_simp⟩
          try simp only [zpt]
          refine wpAny_take (i := 11) (oi := ?oi34) (v := .bool false) ?hi34 (by kernel_rfl) (by kernel_rfl) (by kernel_rfl) ?hQ34 ?hy34 ?rest34
          case hi34 => simp only [zge]; rfl
          case hQ34 => exact fun _ _ _ h => h
          case hy34 => exact Or.inl ⟨by rfl, by intro w; go_simp⟩
          try simp only [zpt]
          refine wpAny_take (i := 12) (oi := ?oi35) (v := .pointer (some ⟨g, 0, none⟩)) ?hi35 (by kernel_rfl) (by kernel_rfl) (by kernel_rfl) ?hQ35 ?hy35 ?rest35
          case hi35 => simp only [zge]; rfl
          case hQ35 => exact fun _ _ _ h => h
          case hy35 => exact Or.inl ⟨by rfl, by intro w; go_simp⟩
          try simp only [zpt]
          refine wpAny_take (i := 13) (oi := ?oi36) (v := .slice (some ⟨b2, off2, none⟩) nl cl) ?hi36 (by kernel_rfl) (by kernel_rfl) (by kernel_rfl) ?hQ36 ?hy36 ?rest36
          case hi36 => simp only [zge]; rfl
          case hQ36 => exact fun _ _ _ h => h
          case hy36 => exact Or.inl ⟨by rfl, by intro w; go_simp⟩
          try simp only [zpt]
          refine wpAny_take (i := 14) (oi := ?oi37) (v := .int .i64 (k : Int)) ?hi37 (by kernel_rfl) (by kernel_rfl) (by kernel_rfl) ?hQ37 ?hy37 ?rest37
          case hi37 => simp only [zge]; rfl
          case hQ37 => exact fun _ _ _ h => h
          case hy37 => exact Or.inl ⟨by rfl, by intro w; go_simp⟩
          try simp only [zpt]
          refine wpAny_take (i := 15) (oi := ?oi38) (v := .pointer (some ⟨b2, o2, none⟩)) ?hi38 (by kernel_rfl) (by kernel_rfl) (by kernel_rfl) ?hQ38 ?hy38 ?rest38
          case hi38 => simp only [zge]; rfl
          case hQ38 => exact fun _ _ _ h => h
          case hy38 => exact Or.inl ⟨by rfl, by intro w; go_simp⟩
          try simp only [zpt]
          refine wpAny_take (i := 16) (oi := ?oi39) (v := .pointer (some ⟨b2, o2, none⟩)) ?hi39 (by kernel_rfl) (by kernel_rfl) (by kernel_rfl) ?hQ39 ?hy39 ?rest39
          case hi39 => simp only [zge]; rfl
          case hQ39 => exact fun _ _ _ h => h
          case hy39 => exact Or.inl ⟨by rfl, by intro w; go_simp⟩
          try simp only [zpt]
          refine wpAny_take (i := 19) (oi := ?oi40) (v := .slice (some ⟨b2, off2, none⟩) nl cl) ?hi40 (by kernel_rfl) (by kernel_rfl) (by kernel_rfl) ?hQ40 ?hy40 ?rest40
          case hi40 => simp only [zge]; rfl
          case hQ40 => exact fun _ _ _ h => h
          case hy40 => exact Or.inl ⟨by rfl, by intro w; go_simp⟩
          try simp only [zpt]
          refine wpAny_take (i := 20) (oi := ?oi41) (v := .slice (some ⟨b2, off2, none⟩) nl cl) ?hi41 (by kernel_rfl) (by kernel_rfl) (by kernel_rfl) ?hQ41 ?hy41 ?rest41
          case hi41 => simp only [zge]; rfl
          case hQ41 => exact fun _ _ _ h => h
          case hy41 => exact Or.inl ⟨by rfl, by intro w; go_simp⟩
          try simp only [zpt]
          refine wpAny_take (i := 21) (oi := ?oi42) (v := .int .i64 (k : Int)) ?hi42 (by kernel_rfl) (by kernel_rfl) (by kernel_rfl) ?hQ42 ?hy42 ?rest42
          case hi42 => simp only [zge]; rfl
          case hQ42 => exact fun _ _ _ h => h
          case hy42 => exact Or.inl ⟨by rfl, by intro w; go_simp⟩
          try simp only [zpt]
          refine wpAny_take (i := 22) (oi := ?oi43) (v := .pointer (some ⟨b2, o2, none⟩)) ?hi43 (by kernel_rfl) (by kernel_rfl) (by kernel_rfl) ?hQ43 ?hy43 ?rest43
          case hi43 => simp only [zge]; rfl
          case hQ43 => exact fun _ _ _ h => h
          case hy43 => exact Or.inl ⟨by rfl, by intro w; go_simp⟩
          try simp only [zpt]
          refine wpAny_take (i := 23) (oi := ?oi44) (v := .pointer (some ⟨b2, o2, none⟩)) ?hi44 (by kernel_rfl) (by kernel_rfl) (by kernel_rfl) ?hQ44 ?hy44 ?rest44
          case hi44 => simp only [zge]; rfl
          case hQ44 => exact fun _ _ _ h => h
          case hy44 => exact Or.inl ⟨by rfl, by intro w; go_simp⟩
          try simp only [zpt]
          refine phaseL (fun i => if i = 18 then [17] else if i = 25 then [24, 18] else if i = 26 then [18, 25] else []) (fun d a w' => ∃ x87 x88 x94 x95 x96 : Value, a = { tmps := #[.slice A n c, undef, u2, .bool true, .pointer (some ⟨g, 0, none⟩), .slice (some ⟨b2, off2, none⟩) nl cl, .int .i64 (m : Int), u7, .int .i64 (k : Int), .pointer (some ⟨q1, 0, none⟩), .bool true, .bool true, .bool true, .bool false, .pointer (some ⟨g, 0, none⟩), .int .i64 (m : Int), .slice A n c, .int .i64 (n : Int), .bool false, .bool false, undef, undef, .bool false, u23, u24, u25, u26, u27, u28, u29, u30, u31, u32, u33, u34, u35, u36, u37, u38, u39, u40, u41, .pointer (some ⟨g, 0, none⟩), .int .i64 (nl : Int), .slice (some ⟨b2, off2, none⟩) nl cl, .int .i64 (nl : Int), .bool false, .bool false, .pointer (some ⟨g, 0, none⟩), .agg RC.toArray, .slice (some ⟨b2, off2, none⟩) nl cl, .agg RC.toArray, .bool false, .bool false, .int .i64 (k : Int), .slice (some ⟨b2, off2, none⟩) nl cl, .int .i64 (nl : Int), .bool true, u58, u59, .tuple #[.agg MC.toArray, .bool true], .pointer (some ⟨g, 0, none⟩), .slice (some ⟨b2, off2, none⟩) nl cl, .int .i64 (k : Int), .pointer (some ⟨b2, o2, none⟩), .pointer (some ⟨b2, o2, none⟩), .agg AC.toArray, .tuple #[.agg MC.toArray, .bool true], .agg MC.toArray, .bool true, .bool true, .bool false, .bool false, .agg MC.toArray, .slice (some ⟨b2, off2, none⟩) nl cl, .int .i64 (k : Int), .pointer (some ⟨b2, o2, none⟩), .pointer (some ⟨b2, o2 + 32, none⟩), .agg MC.toArray, .bool false, .bool false, .bool false, .pointer (some ⟨g, 0, none⟩), .slice (some ⟨b2, off2, none⟩) nl cl, .int .i64 (k : Int), .pointer (some ⟨b2, o2, none⟩), .pointer (some ⟨b2, o2, none⟩), x87, x88, .slice (some ⟨b2, off2, none⟩) nl cl, .slice (some ⟨b2, off2, none⟩) nl cl, .int .i64 (k : Int), .pointer (some ⟨b2, o2, none⟩), .pointer (some ⟨b2, o2, none⟩), x94, x95, x96, u97, u98], defers := [] } ∧ Hid (Below v29.heap.size v29 w') ∧ (d 17 = true → x87 = .agg AC.toArray) ∧ (d 18 = true → Hid (PrfV w' x88 P)) ∧ (d 24 = true → x94 = .agg AC.toArray) ∧ (d 25 = true → Hid (PrfV w' x95 P)) ∧ (d 26 = true → x96 = .bool true)) [17, 18, 24, 25, 26] ?step45 2 5 [17, 18, 24, 25, 26] _ _ _ rfl (by decide) (fun _ h => h) (Fits.of (by kernel_rfl)) ?init45 ?fin45
          case init45 => refine ⟨_, _, _, _, _, rfl, Below.refl _ _, ?_, ?_, ?_, ?_, ?_⟩ <;> (intro h; exact absurd h (by decide))
          case step45 =>
            intro i hi d a v45 hI hdi hdeps
            obtain ⟨x87, x88, x94, x95, x96, rfl, BW, h17, h18, h24, h25, h26⟩ := hI
            have hsw := BW.out.size
            simp only [List.mem_cons, List.not_mem_nil, or_false] at hi
            rcases hi with rfl | rfl | rfl | rfl | rfl
            · refine wpOp_step (o := ?os46) ?hos46 (fun K hK => ?_)
              case hos46 => simp only [zge]; rfl
              refine step_loadW (by kernel_rfl) 30 (.tmp 86) rfl b2 o2 rfl AC _ Tryd.underlying30 rfl IAC.out (LNA.out _ (OL.out.below BW.out)) (hK _ _ ?_)
              clear hK K
              try simp only [zpt]
              exact ⟨_, _, _, _, _, rfl, BW, fun _ => rfl, fun a => h18 (by simpa using a), fun a => by first | exact h24 (by simpa using a) | rfl, fun a => h25 (by simpa using a), fun a => by first | exact h26 (by simpa using a) | rfl⟩
            · obtain rfl := h17 (hdeps 17 (by simp))
              refine wpOp_step (o := ?os47) ?hos47 (fun K hK => ?_)
              case hos47 => simp only [zge]; rfl
              go_simp
              refine (CV.out v45 (T.out.low BW.out)).mono ?_
              rintro e u45 ⟨xr, rfl, hS, hX⟩
              refine hK _ _ ?_
              clear hK K
              try simp only [zpt]
              exact ⟨_, _, _, _, _, rfl, BW.out.trans (hX.mono hsw), fun a => by first | exact h17 (by simpa using a) | rfl, fun _ => hS, fun a => by first | exact h24 (by simpa using a) | rfl, fun a => (h25 (by simpa using a)).out.below hX, fun a => by first | exact h26 (by simpa using a) | rfl⟩
            · refine wpOp_step (o := ?os48) ?hos48 (fun K hK => ?_)
              case hos48 => simp only [zge]; rfl
              refine step_loadW (by kernel_rfl) 30 (.tmp 93) rfl b2 o2 rfl AC _ Tryd.underlying30 rfl IAC.out (LNA.out _ (OL.out.below BW.out)) (hK _ _ ?_)
              clear hK K
              try simp only [zpt]
              exact ⟨_, _, _, _, _, rfl, BW, fun a => by first | exact h17 (by simpa using a) | rfl, fun a => h18 (by simpa using a), fun _ => rfl, fun a => h25 (by simpa using a), fun a => by first | exact h26 (by simpa using a) | rfl⟩
            · obtain rfl := h24 (hdeps 24 (by simp))
              refine wpOp_step (o := ?os49) ?hos49 (fun K hK => ?_)
              case hos49 => simp only [zge]; rfl
              go_simp
              refine (DV.out v45 (HRD.out _ (OL.out.below BW.out))).mono ?_
              rintro e u45 ⟨xr, rfl, hS, hX⟩
              refine hK _ _ ?_
              clear hK K
              try simp only [zpt]
              exact ⟨_, _, _, _, _, rfl, BW.out.trans (hX.mono hsw), fun a => by first | exact h17 (by simpa using a) | rfl, fun a => (h18 (by simpa using a)).out.below hX, fun a => by first | exact h24 (by simpa using a) | rfl, fun _ => hS, fun a => by first | exact h26 (by simpa using a) | rfl⟩
            · have p18 := h18 (hdeps 18 (by simp))
              have p25 := h25 (hdeps 25 (by simp))
              refine wpOp_step (o := ?os50) ?hos50 (fun K hK => ?_)
              case hos50 => simp only [zge]; rfl
              go_simp
              refine (CE.out v45 _ _ p18.out p25.out).mono ?_
              rintro e u45 ⟨rfl, hX⟩
              refine hK _ _ ?_
              clear hK K
              try simp only [zpt]
              exact ⟨_, _, _, _, _, rfl, BW.out.trans (hX.mono hsw), fun a => by first | exact h17 (by simpa using a) | rfl, fun a => (h18 (by simpa using a)).out.below hX, fun a => by first | exact h24 (by simpa using a) | rfl, fun a => (h25 (by simpa using a)).out.below hX, fun _ => rfl⟩
          case fin45 =>
            intro a v45 hI
            obtain ⟨x87, x88, x94, x95, x96, rfl, BW, h17, h18, h24, h25, h26⟩ := hI
            obtain rfl := h17 (by decide)
            obtain rfl := h24 (by decide)
            obtain rfl := h26 (by decide)
            clear h17 h24 h26
            have hX := BW.out
            replace T := Lib.hid (T.out.low hX)
            replace OL := Lib.hid (OL.out.below hX)
            replace BS := Lib.hid (BS.out.below hX BS.out.lt)
            replace W := Lib.hid (W.out.trans (hX.mono W.out.size))
            clear hX BW
            try dsimp only
            refine wpAny_take (i := 27) (oi := ?oi51) (v := .bool false) ?hi51 (by kernel_rfl) (by kernel_rfl) (by kernel_rfl) ?hQ51 ?hy51 ?rest51
            case hi51 => simp only [zge]; rfl
            case hQ51 => exact fun _ _ _ h => h
            case hy51 => exact Or.inl ⟨by rfl, by intro w; go_simp⟩
            try simp only [zpt]
            refine wpAny_take (i := 28) (oi := ?oi52) (v := .bool false) ?hi52 (by kernel_rfl) (by kernel_rfl) (by kernel_rfl) ?hQ52 ?hy52 ?rest52
            case hi52 => simp only [zge]; rfl
            case hQ52 => exact fun _ _ _ h => h
            case hy52 => exact Or.inl ⟨by rfl, by intro w; go_simp⟩
            try simp only [zpt]
            refine wpAny_done (by kernel_rfl) ?_ _
            go_wp2_with fail
            go_roundw
            case rel => exact ⟨k + 1, by omega, by go_num, T, OL, W⟩
            case measure => simp [intOf]; omega
    have d1 : decide ((m : Int) < (n : Int)) = true := decide_eq_true (by omega)
    by_cases h2 : m < 8
    case neg =>
      have d2 : decide ((m : Int) < 8) = false := decide_eq_false (by omega)
      have hrl := Tm.root_length 0 l
      have hnl8 : nl ≤ 8 := by have := HNL.out; have := HLN.out; omega
      have CLN : Hid (∀ W, TreeAt W g l → Calls Tryd.prog 16 #[.pointer (some ⟨g, 0, none⟩)] W fun e w' => e = .returned (.int .i64 (nl : Int)) ∧ W = w') := fun W hT => by
        have := tlen_any hT
        rwa [← HNL.out] at this
      have CR : Hid (∀ W, TreeAt W g l → Calls Tryd.prog 17 #[.pointer (some ⟨g, 0, none⟩)] W fun e w' => e = .returned (hv (Tm.root 0 l)) ∧ Below W.heap.size W w') := fun W hT => troot_any hT
      have DR : Hid (∀ W, Rd2 W 64 AL nl cl (pairs l) → Calls Tryd.prog 18 #[.slice AL nl cl, .int .i64 0] W fun e w' => e = .returned (hv (Tm.root 0 l)) ∧ Below W.heap.size W w') := fun W hR => rroot_any 257 l 0 rfl hR hfit (by have := HLN.out; have := HNL.out; omega)
      have ER := Lib.hid (hash_eq (Tm.root 0 l) (Tm.root 0 l) hrl hrl)
      rw [decide_eq_true rfl] at ER
      have HRD : Hid (∀ W, Ow2 W w.heap.size 47 64 (.slice AL nl cl) (pairs l) → Rd2 W 64 AL nl cl (pairs l)) := fun W h => h.rds.1
      unfold hv at CR DR
      have IRC := Lib.hid (hash_info (hrl))
      have ORC := Lib.hid (cells_u8 (Tm.root 0 l))
      have LRC : Hid (Z.length = ((Tm.root 0 l).map cellOf).length) := by unfold Hid; rw [List.length_map, hrl, HZL.out]
      obtain ⟨RC, hRC⟩ : ∃ L, L = (Tm.root 0 l).map cellOf := ⟨_, rfl⟩
      have NRC : Hid (RC.length = 32) := by unfold Hid; rw [hRC, List.length_map, hrl]
      rw [← hRC] at IRC ORC LRC CR DR ER
      have ERC := Lib.hid hRC
      clear hRC
      have er := ER.out
      go_upto_region 15 with (first
        | (go_at_call 16; refine (CLN.out wr T.out).mono ?_; rintro e w4 ⟨rfl, rfl⟩; skip)
        | (go_at_call 17; refine (CR.out wr T.out).mono ?_; rintro e w4 ⟨rfl, hX⟩; replace T := Lib.hid (T.out.low hX); replace OL := Lib.hid (OL.out.below hX); replace W := Lib.hid (W.out.trans (hX.mono W.out.size)); clear hX)
        | (go_at_call 18; refine (DR.out w4 (HRD.out _ OL.out)).mono ?_; rintro e w5 ⟨rfl, hX⟩; replace T := Lib.hid (T.out.low hX); replace OL := Lib.hid (OL.out.below hX); replace W := Lib.hid (W.out.trans (hX.mono W.out.size)); clear hX))
      clear er ER CLN
      go_wp2_with fail
      go_loopw [8] (fun iv ws => ∃ k : Nat, k ≤ nl ∧ iv = .int .i64 (k : Int) ∧ Hid (TreeAt ws g l) ∧ Hid (Ow2 ws w.heap.size 47 64 (.slice AL nl cl) (pairs l)) ∧ Hid (Below w.heap.size w ws)) (fun i _ => nl - (intOf i).toNat)
      case atStart => exact ⟨0, Nat.zero_le _, rfl, T, OL, W⟩
      case round =>
        clear T OL W
        obtain ⟨k, hkk, rfl, T, OL, W⟩ := hrel
        by_cases h3 : k < nl
        case neg =>
          have d3 : decide ((k : Int) < (nl : Int)) = false := decide_eq_false (by omega)
          go_wp2_with fail
          go_ret
          exact ⟨rfl, W.out⟩
        have d3 : decide ((k : Int) < (nl : Int)) = true := decide_eq_true (by omega)
        have hkl : k < l.length := by rw [← HNL.out]; exact h3
        have hlk := hfit.len l[k] (List.getElem_mem hkl)
        obtain ⟨b2, off2, hA2, hb2, hkn, _, hc1, hc2⟩ := rd2_pair (HRD.out _ OL.out) hfit.len hkl
        have hri2 := fun W => index_pair b2 off2 nl cl k hkn W
        obtain ⟨o2, ho2⟩ : ∃ o, o = off2 + k * 64 := ⟨_, rfl⟩
        rw [← ho2] at hri2 hc1 hc2
        have LNA : Hid (∀ W, Ow2 W w.heap.size 47 64 (.slice AL nl cl) (pairs l) → ∀ y x, (l[k].1.map cellOf)[y]? = some x → W.cell? ⟨b2, o2 + y, none⟩ = some x) := fun W hO y x hx => by
          obtain ⟨b', off', hA', _, _, _, h1', _⟩ := rd2_pair (HRD.out W hO) hfit.len hkl
          rw [hA2] at hA'
          obtain ⟨e1, e2⟩ : b2 = b' ∧ off2 = off' := by simpa using hA'
          have := h1' y x hx
          rwa [← e1, ← e2, ← ho2] at this
        have LNS : Hid (∀ W, Ow2 W w.heap.size 47 64 (.slice AL nl cl) (pairs l) → ∀ y x, (l[k].2.map cellOf)[y]? = some x → W.cell? ⟨b2, o2 + 32 + y, none⟩ = some x) := fun W hO y x hx => by
          obtain ⟨b', off', hA', _, _, _, _, h1'⟩ := rd2_pair (HRD.out W hO) hfit.len hkl
          rw [hA2] at hA'
          obtain ⟨e1, e2⟩ : b2 = b' ∧ off2 = off' := by simpa using hA'
          have := h1' y x hx
          rwa [← e1, ← e2, ← ho2] at this
        subst hA2
        obtain ⟨P, hP⟩ : ∃ P, P = Tm.prove l l[k].1 := ⟨_, rfl⟩
        have hPI : ∀ W B x, PrfAt W B x P → PrfIn W x P := fun W B x h => by rw [hP] at h ⊢; exact prove_in hfit h
        have IA := Lib.hid (hash_info hlk.1)
        have CGT : Hid (∀ W, TreeAt W g l → Calls Tryd.prog 19 #[.pointer (some ⟨g, 0, none⟩), hv l[k].1] W fun e w' => e = .returned (.tuple #[hv l[k].2, .bool true]) ∧ Below W.heap.size W w') := fun W hT => by
          have := tget_any hT hlk.1
          rw [get_at hfit.ne hkl] at this
          exact this
        have CV : Hid (∀ W, TreeAt W g l → Calls Tryd.prog 21 #[.pointer (some ⟨g, 0, none⟩), hv l[k].1] W fun e w' => ∃ x, e = .returned x ∧ PrfV w' x P ∧ Below W.heap.size W w') := fun W hT => (tprove_any hT hlk.1).mono fun e w' ⟨x, h1, h2, h3⟩ => ⟨x, h1, ⟨_, by rw [hP]; exact h2⟩, h3⟩
        have DV : Hid (∀ W, Rd2 W 64 (some ⟨b2, off2, none⟩) nl cl (pairs l) → Calls Tryd.prog 22 #[.slice (some ⟨b2, off2, none⟩) nl cl, hv l[k].1] W fun e w' => ∃ x, e = .returned x ∧ PrfV w' x P ∧ Below W.heap.size W w') := fun W hR => (rprove_any hR hfit (by have := HLN.out; have := HNL.out; omega) hlk.1).mono fun e w' ⟨x, h1, h2, h3⟩ => ⟨x, h1, ⟨_, by rw [hP]; exact h2⟩, h3⟩
        have CE : Hid (∀ W x y, PrfV W x P → PrfV W y P → Calls Tryd.prog 24 #[x, y] W fun e w' => e = .returned (.bool true) ∧ Below W.heap.size W w') := fun W x y ⟨B, h⟩ ⟨B', h'⟩ => eqproof_same (hPI W B x h) (hPI W B' y h')
        have E0 := Lib.hid (hash_eq l[k].2 l[k].2 hlk.2 hlk.2)
        rw [decide_eq_true rfl] at E0
        unfold hv at CGT CV DV
        have IAC := Lib.hid (hash_info (hlk.1))
        have OAC := Lib.hid (cells_u8 (l[k].1))
        have LAC : Hid (Z.length = ((l[k].1).map cellOf).length) := by unfold Hid; rw [List.length_map, hlk.1, HZL.out]
        obtain ⟨AC, hAC⟩ : ∃ L, L = (l[k].1).map cellOf := ⟨_, rfl⟩
        have NAC : Hid (AC.length = 32) := by unfold Hid; rw [hAC, List.length_map, hlk.1]
        rw [← hAC] at IAC OAC LAC CGT CV DV LNA
        have EAC := Lib.hid hAC
        clear hAC
        have IMC := Lib.hid (hash_info (hlk.2))
        have OMC := Lib.hid (cells_u8 (l[k].2))
        have LMC : Hid (Z.length = ((l[k].2).map cellOf).length) := by unfold Hid; rw [List.length_map, hlk.2, HZL.out]
        obtain ⟨MC, hMC⟩ : ∃ L, L = (l[k].2).map cellOf := ⟨_, rfl⟩
        have NMC : Hid (MC.length = 32) := by unfold Hid; rw [hMC, List.length_map, hlk.2]
        rw [← hMC] at IMC OMC LMC CGT E0 LNS
        have EMC := Lib.hid hMC
        clear hMC
        have lna := LNA.out _ OL.out
        have HL1 := Lib.hid lna
        clear lna hc1 hc2 ho2 hPI hP hb2 IA
        go_upto_region 19 with (first
          | (with_reducible refine load_law rfl 30 (.tmp 65) rfl b2 o2 rfl AC _ Tryd.underlying30 rfl IAC.out HL1.out ?_)
          | (go_at_call 19; refine (CGT.out wr T.out).mono ?_; rintro e w8 ⟨rfl, hX⟩; replace T := Lib.hid (T.out.low hX); replace OL := Lib.hid (OL.out.below hX); replace W := Lib.hid (W.out.trans (hX.mono W.out.size)); clear hX)
          | ((with_reducible refine storeGen_law rfl 30 (.tmp 9) (.tmp 68) rfl w8.heap.size rfl MC rfl 30 Z IMC.out LMC.out OMC.out w8.heap.size w8 ?_ ?_ (Nat.le_refl _) ?_)
             · exact ZB.out w8
             · exact alloc_below w8 _
             intro w9 BS hX'; have hX := hX'.out; clear hX'; replace T := Lib.hid (T.out.low hX); replace OL := Lib.hid (OL.out.below hX); replace W := Lib.hid (W.out.trans (hX.mono W.out.size)); clear hX))
        obtain ⟨q1, hq1⟩ : ∃ q, q = w8.heap.size := ⟨_, rfl⟩
        rw [← hq1] at BS ⊢
        clear hq1 d3 HL1
        have hX := (Below.refl w9.heap.size w9).drew
        replace T := Lib.hid (T.out.low hX)
        replace OL := Lib.hid (OL.out.below hX)
        replace BS := Lib.hid (BS.out.below hX BS.out.lt)
        replace W := Lib.hid (W.out.trans (hX.mono W.out.size))
        clear hX
        refine wp_region_any (by kernel_rfl) ?_
        change wpAny _ _ _ _ _ _ _ (World.drew _)
        generalize w9.drew = wg at *
        refine wpAny_take (i := 0) (oi := ?oi53) (v := .bool true) ?hi53 (by kernel_rfl) (by kernel_rfl) (by kernel_rfl) ?hQ53 ?hy53 ?rest53
        case hi53 => simp only [zge]; rfl
        case hQ53 => exact fun _ _ _ h => h
        case hy53 => exact Or.inl ⟨by rfl, by intro w; go_simp⟩
        try simp only [zpt]
        refine wpAny_take (i := 1) (oi := ?oi54) (v := .bool false) ?hi54 (by kernel_rfl) (by kernel_rfl) (by kernel_rfl) ?hQ54 ?hy54 ?rest54
        case hi54 => simp only [zge]; rfl
        case hQ54 => exact fun _ _ _ h => h
        case hy54 => exact Or.inl ⟨by rfl, by intro w; go_simp⟩
        try simp only [zpt]
        refine wpAny_take (i := 2) (oi := ?oi55) (v := .bool false) ?hi55 (by kernel_rfl) (by kernel_rfl) (by kernel_rfl) ?hQ55 ?hy55 ?rest55
        case hi55 => simp only [zge]; rfl
        case hQ55 => exact fun _ _ _ h => h
        case hy55 => exact Or.inl ⟨by rfl, by intro w; go_simp⟩
        try simp only [zpt]
        refine wpAny_take (i := 4) (oi := ?oi56) (v := .slice (some ⟨b2, off2, none⟩) nl cl) ?hi56 (by kernel_rfl) (by kernel_rfl) (by kernel_rfl) ?hQ56 ?hy56 ?rest56
        case hi56 => simp only [zge]; rfl
        case hQ56 => exact fun _ _ _ h => h
        case hy56 => exact Or.inl ⟨by rfl, by intro w; go_simp⟩
        try simp only [zpt]
        refine wpAny_take (i := 5) (oi := ?oi57) (v := .int .i64 (k : Int)) ?hi57 (by kernel_rfl) (by kernel_rfl) (by kernel_rfl) ?hQ57 ?hy57 ?rest57
        case hi57 => simp only [zge]; rfl
        case hQ57 => exact fun _ _ _ h => h
        case hy57 => exact Or.inl ⟨by rfl, by intro w; go_simp⟩
        try simp only [zpt]
        refine wpAny_take (i := 6) (oi := ?oi58) (v := .pointer (some ⟨b2, o2, none⟩)) ?hi58 (by kernel_rfl) (by kernel_rfl) (by kernel_rfl) ?hQ58 ?hy58 ?rest58
        case hi58 => simp only [zge]; rfl
        case hQ58 => exact fun _ _ _ h => h
        case hy58 => exact Or.inl ⟨by rfl, by intro w; go_simp⟩
        try simp only [zpt]
        refine wpAny_take (i := 7) (oi := ?oi59) (v := .pointer (some ⟨b2, o2 + 32, none⟩)) ?hi59 (by kernel_rfl) (by kernel_rfl) (by kernel_rfl) ?hQ59 ?hy59 ?rest59
        case hi59 => simp only [zge]; rfl
        case hQ59 => exact fun _ _ _ h => h
        case hy59 => exact Or.inl ⟨by rfl, by intro w; go_simp⟩
        try simp only [zpt]
        refine phaseL (fun i => if i = 9 then [3, 8] else []) (fun d a w' => ∃ x73 x78 x79 : Value, a = { tmps := #[.slice A n c, undef, u2, .bool true, .pointer (some ⟨g, 0, none⟩), .slice (some ⟨b2, off2, none⟩) nl cl, .int .i64 (m : Int), u7, .int .i64 (k : Int), .pointer (some ⟨q1, 0, none⟩), .bool true, .bool true, .bool true, .bool false, .pointer (some ⟨g, 0, none⟩), .int .i64 (m : Int), .slice A n c, .int .i64 (n : Int), .bool true, .bool true, .int .i64 (m : Int), .bool false, .bool false, u23, u24, u25, u26, u27, u28, u29, u30, u31, u32, u33, u34, u35, u36, u37, u38, u39, u40, u41, .pointer (some ⟨g, 0, none⟩), .int .i64 (nl : Int), .slice (some ⟨b2, off2, none⟩) nl cl, .int .i64 (nl : Int), .bool false, .bool false, .pointer (some ⟨g, 0, none⟩), .agg RC.toArray, .slice (some ⟨b2, off2, none⟩) nl cl, .agg RC.toArray, .bool false, .bool false, .int .i64 (k : Int), .slice (some ⟨b2, off2, none⟩) nl cl, .int .i64 (nl : Int), .bool true, u58, u59, .tuple #[.agg MC.toArray, .bool true], .pointer (some ⟨g, 0, none⟩), .slice (some ⟨b2, off2, none⟩) nl cl, .int .i64 (k : Int), .pointer (some ⟨b2, o2, none⟩), .pointer (some ⟨b2, o2, none⟩), .agg AC.toArray, .tuple #[.agg MC.toArray, .bool true], .agg MC.toArray, .bool true, .bool true, .bool false, .bool false, x73, .slice (some ⟨b2, off2, none⟩) nl cl, .int .i64 (k : Int), .pointer (some ⟨b2, o2, none⟩), .pointer (some ⟨b2, o2 + 32, none⟩), x78, x79, u80, u81, u82, u83, u84, u85, u86, u87, u88, u89, u90, u91, u92, u93, u94, u95, u96, u97, u98], defers := [] } ∧ Hid (Below wg.heap.size wg w') ∧ (d 3 = true → x73 = .agg MC.toArray) ∧ (d 8 = true → x78 = .agg MC.toArray) ∧ (d 9 = true → x79 = .bool false)) [3, 8, 9] ?step60 19 3 [3, 8, 9] _ _ _ rfl (by decide) (fun _ h => h) (Fits.of (by kernel_rfl)) ?init60 ?fin60
        case init60 => refine ⟨_, _, _, rfl, Below.refl _ _, ?_, ?_, ?_⟩ <;> (intro h; exact absurd h (by decide))
        case step60 =>
          intro i hi d a v60 hI hdi hdeps
          obtain ⟨x73, x78, x79, rfl, BW, h3, h8, h9⟩ := hI
          have hsw := BW.out.size
          simp only [List.mem_cons, List.not_mem_nil, or_false] at hi
          rcases hi with rfl | rfl | rfl
          · refine wpOp_step (o := ?os61) ?hos61 (fun K hK => ?_)
            case hos61 => simp only [zge]; rfl
            refine step_loadW (by kernel_rfl) 30 (.tmp 9) rfl q1 0 rfl MC _ Tryd.underlying30 rfl IMC.out (BS.out.below BW.out BS.out.lt |>.cells) (hK _ _ ?_)
            clear hK K
            try simp only [zpt]
            exact ⟨_, _, _, rfl, BW, fun _ => rfl, fun a => by first | exact h8 (by simpa using a) | rfl, fun a => by first | exact h9 (by simpa using a) | rfl⟩
          · refine wpOp_step (o := ?os62) ?hos62 (fun K hK => ?_)
            case hos62 => simp only [zge]; rfl
            refine step_loadW (by kernel_rfl) 30 (.tmp 77) rfl b2 (o2 + 32) rfl MC _ Tryd.underlying30 rfl IMC.out (LNS.out _ (OL.out.below BW.out)) (hK _ _ ?_)
            clear hK K
            try simp only [zpt]
            exact ⟨_, _, _, rfl, BW, fun a => by first | exact h3 (by simpa using a) | rfl, fun _ => rfl, fun a => by first | exact h9 (by simpa using a) | rfl⟩
          · obtain rfl := h3 (hdeps 3 (by simp))
            obtain rfl := h8 (hdeps 8 (by simp))
            have e0 := E0.out
            refine wpOp_step (o := ?os63) ?hos63 (fun K hK => ?_)
            case hos63 => simp only [zge]; rfl
            go_simp
            refine hK _ _ ?_
            clear hK K
            try simp only [zpt]
            exact ⟨_, _, _, rfl, BW, fun a => by first | exact h3 (by simpa using a) | rfl, fun a => by first | exact h8 (by simpa using a) | rfl, fun _ => rfl⟩
        case fin60 =>
          intro a v60 hI
          obtain ⟨x73, x78, x79, rfl, BW, h3, h8, h9⟩ := hI
          obtain rfl := h3 (by decide)
          obtain rfl := h8 (by decide)
          obtain rfl := h9 (by decide)
          clear h3 h8 h9
          have hX := BW.out
          replace T := Lib.hid (T.out.low hX)
          replace OL := Lib.hid (OL.out.below hX)
          replace BS := Lib.hid (BS.out.below hX BS.out.lt)
          replace W := Lib.hid (W.out.trans (hX.mono W.out.size))
          clear hX BW
          try dsimp only
          refine wpAny_take (i := 10) (oi := ?oi64) (v := .bool false) ?hi64 (by kernel_rfl) (by kernel_rfl) (by kernel_rfl) ?hQ64 ?hy64 ?rest64
          case hi64 => simp only [zge]; rfl
          case hQ64 => exact fun _ _ _ h => h
          case hy64 => exact Or.inl ⟨by rfl, by intro w; go_simp⟩
          try simp only [zpt]
          refine wpAny_take (i := 11) (oi := ?oi65) (v := .bool false) ?hi65 (by kernel_rfl) (by kernel_rfl) (by kernel_rfl) ?hQ65 ?hy65 ?rest65
          case hi65 => simp only [zge]; rfl
          case hQ65 => exact fun _ _ _ h => h
          case hy65 => exact Or.inl ⟨by rfl, by intro w; go_simp⟩
          try simp only [zpt]
          refine wpAny_take (i := 12) (oi := ?oi66) (v := .pointer (some ⟨g, 0, none⟩)) ?hi66 (by kernel_rfl) (by kernel_rfl) (by kernel_rfl) ?hQ66 ?hy66 ?rest66
          case hi66 => simp only [zge]; rfl
          case hQ66 => exact fun _ _ _ h => h
          case hy66 => exact Or.inl ⟨by rfl, by intro w; go_simp⟩
          try simp only [zpt]
          refine wpAny_take (i := 13) (oi := ?oi67) (v := .slice (some ⟨b2, off2, none⟩) nl cl) ?hi67 (by kernel_rfl) (by kernel_rfl) (by kernel_rfl) ?hQ67 ?hy67 ?rest67
          case hi67 => simp only [zge]; rfl
          case hQ67 => exact fun _ _ _ h => h
          case hy67 => exact Or.inl ⟨by rfl, by intro w; go_simp⟩
          try simp only [zpt]
          refine wpAny_take (i := 14) (oi := ?oi68) (v := .int .i64 (k : Int)) ?hi68 (by kernel_rfl) (by kernel_rfl) (by kernel_rfl) ?hQ68 ?hy68 ?rest68
          case hi68 => simp only [zge]; rfl
          case hQ68 => exact fun _ _ _ h => h
          case hy68 => exact Or.inl ⟨by rfl, by intro w; go_simp⟩
          try simp only [zpt]
          refine wpAny_take (i := 15) (oi := ?oi69) (v := .pointer (some ⟨b2, o2, none⟩)) ?hi69 (by kernel_rfl) (by kernel_rfl) (by kernel_rfl) ?hQ69 ?hy69 ?rest69
          case hi69 => simp only [zge]; rfl
          case hQ69 => exact fun _ _ _ h => h
          case hy69 => exact Or.inl ⟨by rfl, by intro w; go_simp⟩
          try simp only [zpt]
          refine wpAny_take (i := 16) (oi := ?oi70) (v := .pointer (some ⟨b2, o2, none⟩)) ?hi70 (by kernel_rfl) (by kernel_rfl) (by kernel_rfl) ?hQ70 ?hy70 ?rest70
          case hi70 => simp only [zge]; rfl
          case hQ70 => exact fun _ _ _ h => h
          case hy70 => exact Or.inl ⟨by rfl, by intro w; go_simp⟩
          try simp only [zpt]
          refine wpAny_take (i := 19) (oi := ?oi71) (v := .slice (some ⟨b2, off2, none⟩) nl cl) ?hi71 (by kernel_rfl) (by kernel_rfl) (by kernel_rfl) ?hQ71 ?hy71 ?rest71
          case hi71 => simp only [zge]; rfl
          case hQ71 => exact fun _ _ _ h => h
          case hy71 => exact Or.inl ⟨by rfl, by intro w; go_simp⟩
          try simp only [zpt]
          refine wpAny_take (i := 20) (oi := ?oi72) (v := .slice (some ⟨b2, off2, none⟩) nl cl) ?hi72 (by kernel_rfl) (by kernel_rfl) (by kernel_rfl) ?hQ72 ?hy72 ?rest72
          case hi72 => simp only [zge]; rfl
          case hQ72 => exact fun _ _ _ h => h
          case hy72 => exact Or.inl ⟨by rfl, by intro w; go_simp⟩
          try simp only [zpt]
          refine wpAny_take (i := 21) (oi := ?oi73) (v := .int .i64 (k : Int)) ?hi73 (by kernel_rfl) (by kernel_rfl) (by kernel_rfl) ?hQ73 ?hy73 ?rest73
          case hi73 => simp only [zge]; rfl
          case hQ73 => exact fun _ _ _ h => h
          case hy73 => exact Or.inl ⟨by rfl, by intro w; go_simp⟩
          try simp only [zpt]
          refine wpAny_take (i := 22) (oi := ?oi74) (v := .pointer (some ⟨b2, o2, none⟩)) ?hi74 (by kernel_rfl) (by kernel_rfl) (by kernel_rfl) ?hQ74 ?hy74 ?rest74
          case hi74 => simp only [zge]; rfl
          case hQ74 => exact fun _ _ _ h => h
          case hy74 => exact Or.inl ⟨by rfl, by intro w; go_simp⟩
          try simp only [zpt]
          refine wpAny_take (i := 23) (oi := ?oi75) (v := .pointer (some ⟨b2, o2, none⟩)) ?hi75 (by kernel_rfl) (by kernel_rfl) (by kernel_rfl) ?hQ75 ?hy75 ?rest75
          case hi75 => simp only [zge]; rfl
          case hQ75 => exact fun _ _ _ h => h
          case hy75 => exact Or.inl ⟨by rfl, by intro w; go_simp⟩
          try simp only [zpt]
          refine phaseL (fun i => if i = 18 then [17] else if i = 25 then [24, 18] else if i = 26 then [18, 25] else []) (fun d a w' => ∃ x87 x88 x94 x95 x96 : Value, a = { tmps := #[.slice A n c, undef, u2, .bool true, .pointer (some ⟨g, 0, none⟩), .slice (some ⟨b2, off2, none⟩) nl cl, .int .i64 (m : Int), u7, .int .i64 (k : Int), .pointer (some ⟨q1, 0, none⟩), .bool true, .bool true, .bool true, .bool false, .pointer (some ⟨g, 0, none⟩), .int .i64 (m : Int), .slice A n c, .int .i64 (n : Int), .bool true, .bool true, .int .i64 (m : Int), .bool false, .bool false, u23, u24, u25, u26, u27, u28, u29, u30, u31, u32, u33, u34, u35, u36, u37, u38, u39, u40, u41, .pointer (some ⟨g, 0, none⟩), .int .i64 (nl : Int), .slice (some ⟨b2, off2, none⟩) nl cl, .int .i64 (nl : Int), .bool false, .bool false, .pointer (some ⟨g, 0, none⟩), .agg RC.toArray, .slice (some ⟨b2, off2, none⟩) nl cl, .agg RC.toArray, .bool false, .bool false, .int .i64 (k : Int), .slice (some ⟨b2, off2, none⟩) nl cl, .int .i64 (nl : Int), .bool true, u58, u59, .tuple #[.agg MC.toArray, .bool true], .pointer (some ⟨g, 0, none⟩), .slice (some ⟨b2, off2, none⟩) nl cl, .int .i64 (k : Int), .pointer (some ⟨b2, o2, none⟩), .pointer (some ⟨b2, o2, none⟩), .agg AC.toArray, .tuple #[.agg MC.toArray, .bool true], .agg MC.toArray, .bool true, .bool true, .bool false, .bool false, .agg MC.toArray, .slice (some ⟨b2, off2, none⟩) nl cl, .int .i64 (k : Int), .pointer (some ⟨b2, o2, none⟩), .pointer (some ⟨b2, o2 + 32, none⟩), .agg MC.toArray, .bool false, .bool false, .bool false, .pointer (some ⟨g, 0, none⟩), .slice (some ⟨b2, off2, none⟩) nl cl, .int .i64 (k : Int), .pointer (some ⟨b2, o2, none⟩), .pointer (some ⟨b2, o2, none⟩), x87, x88, .slice (some ⟨b2, off2, none⟩) nl cl, .slice (some ⟨b2, off2, none⟩) nl cl, .int .i64 (k : Int), .pointer (some ⟨b2, o2, none⟩), .pointer (some ⟨b2, o2, none⟩), x94, x95, x96, u97, u98], defers := [] } ∧ Hid (Below v60.heap.size v60 w') ∧ (d 17 = true → x87 = .agg AC.toArray) ∧ (d 18 = true → Hid (PrfV w' x88 P)) ∧ (d 24 = true → x94 = .agg AC.toArray) ∧ (d 25 = true → Hid (PrfV w' x95 P)) ∧ (d 26 = true → x96 = .bool true)) [17, 18, 24, 25, 26] ?step76 2 5 [17, 18, 24, 25, 26] _ _ _ rfl (by decide) (fun _ h => h) (Fits.of (by kernel_rfl)) ?init76 ?fin76
          case init76 => refine ⟨_, _, _, _, _, rfl, Below.refl _ _, ?_, ?_, ?_, ?_, ?_⟩ <;> (intro h; exact absurd h (by decide))
          case step76 =>
            intro i hi d a v76 hI hdi hdeps
            obtain ⟨x87, x88, x94, x95, x96, rfl, BW, h17, h18, h24, h25, h26⟩ := hI
            have hsw := BW.out.size
            simp only [List.mem_cons, List.not_mem_nil, or_false] at hi
            rcases hi with rfl | rfl | rfl | rfl | rfl
            · refine wpOp_step (o := ?os77) ?hos77 (fun K hK => ?_)
              case hos77 => simp only [zge]; rfl
              refine step_loadW (by kernel_rfl) 30 (.tmp 86) rfl b2 o2 rfl AC _ Tryd.underlying30 rfl IAC.out (LNA.out _ (OL.out.below BW.out)) (hK _ _ ?_)
              clear hK K
              try simp only [zpt]
              exact ⟨_, _, _, _, _, rfl, BW, fun _ => rfl, fun a => h18 (by simpa using a), fun a => by first | exact h24 (by simpa using a) | rfl, fun a => h25 (by simpa using a), fun a => by first | exact h26 (by simpa using a) | rfl⟩
            · obtain rfl := h17 (hdeps 17 (by simp))
              refine wpOp_step (o := ?os78) ?hos78 (fun K hK => ?_)
              case hos78 => simp only [zge]; rfl
              go_simp
              refine (CV.out v76 (T.out.low BW.out)).mono ?_
              rintro e u76 ⟨xr, rfl, hS, hX⟩
              refine hK _ _ ?_
              clear hK K
              try simp only [zpt]
              exact ⟨_, _, _, _, _, rfl, BW.out.trans (hX.mono hsw), fun a => by first | exact h17 (by simpa using a) | rfl, fun _ => hS, fun a => by first | exact h24 (by simpa using a) | rfl, fun a => (h25 (by simpa using a)).out.below hX, fun a => by first | exact h26 (by simpa using a) | rfl⟩
            · refine wpOp_step (o := ?os79) ?hos79 (fun K hK => ?_)
              case hos79 => simp only [zge]; rfl
              refine step_loadW (by kernel_rfl) 30 (.tmp 93) rfl b2 o2 rfl AC _ Tryd.underlying30 rfl IAC.out (LNA.out _ (OL.out.below BW.out)) (hK _ _ ?_)
              clear hK K
              try simp only [zpt]
              exact ⟨_, _, _, _, _, rfl, BW, fun a => by first | exact h17 (by simpa using a) | rfl, fun a => h18 (by simpa using a), fun _ => rfl, fun a => h25 (by simpa using a), fun a => by first | exact h26 (by simpa using a) | rfl⟩
            · obtain rfl := h24 (hdeps 24 (by simp))
              refine wpOp_step (o := ?os80) ?hos80 (fun K hK => ?_)
              case hos80 => simp only [zge]; rfl
              go_simp
              refine (DV.out v76 (HRD.out _ (OL.out.below BW.out))).mono ?_
              rintro e u76 ⟨xr, rfl, hS, hX⟩
              refine hK _ _ ?_
              clear hK K
              try simp only [zpt]
              exact ⟨_, _, _, _, _, rfl, BW.out.trans (hX.mono hsw), fun a => by first | exact h17 (by simpa using a) | rfl, fun a => (h18 (by simpa using a)).out.below hX, fun a => by first | exact h24 (by simpa using a) | rfl, fun _ => hS, fun a => by first | exact h26 (by simpa using a) | rfl⟩
            · have p18 := h18 (hdeps 18 (by simp))
              have p25 := h25 (hdeps 25 (by simp))
              refine wpOp_step (o := ?os81) ?hos81 (fun K hK => ?_)
              case hos81 => simp only [zge]; rfl
              go_simp
              refine (CE.out v76 _ _ p18.out p25.out).mono ?_
              rintro e u76 ⟨rfl, hX⟩
              refine hK _ _ ?_
              clear hK K
              try simp only [zpt]
              exact ⟨_, _, _, _, _, rfl, BW.out.trans (hX.mono hsw), fun a => by first | exact h17 (by simpa using a) | rfl, fun a => (h18 (by simpa using a)).out.below hX, fun a => by first | exact h24 (by simpa using a) | rfl, fun a => (h25 (by simpa using a)).out.below hX, fun _ => rfl⟩
          case fin76 =>
            intro a v76 hI
            obtain ⟨x87, x88, x94, x95, x96, rfl, BW, h17, h18, h24, h25, h26⟩ := hI
            obtain rfl := h17 (by decide)
            obtain rfl := h24 (by decide)
            obtain rfl := h26 (by decide)
            clear h17 h24 h26
            have hX := BW.out
            replace T := Lib.hid (T.out.low hX)
            replace OL := Lib.hid (OL.out.below hX)
            replace BS := Lib.hid (BS.out.below hX BS.out.lt)
            replace W := Lib.hid (W.out.trans (hX.mono W.out.size))
            clear hX BW
            try dsimp only
            refine wpAny_take (i := 27) (oi := ?oi82) (v := .bool false) ?hi82 (by kernel_rfl) (by kernel_rfl) (by kernel_rfl) ?hQ82 ?hy82 ?rest82
            case hi82 => simp only [zge]; rfl
            case hQ82 => exact fun _ _ _ h => h
            case hy82 => exact Or.inl ⟨by rfl, by intro w; go_simp⟩
            try simp only [zpt]
            refine wpAny_take (i := 28) (oi := ?oi83) (v := .bool false) ?hi83 (by kernel_rfl) (by kernel_rfl) (by kernel_rfl) ?hQ83 ?hy83 ?rest83
            case hi83 => simp only [zge]; rfl
            case hQ83 => exact fun _ _ _ h => h
            case hy83 => exact Or.inl ⟨by rfl, by intro w; go_simp⟩
            try simp only [zpt]
            refine wpAny_done (by kernel_rfl) ?_ _
            go_wp2_with fail
            go_roundw
            case rel => exact ⟨k + 1, by omega, by go_num, T, OL, W⟩
            case measure => simp [intOf]; omega
    have d2 : decide ((m : Int) < 8) = true := decide_eq_true (by omega)
    obtain ⟨b, off, A', n', c', hA, hb, hcell, hrd⟩ := HP.out.at_ m h1
    obtain ⟨o, ho⟩ : ∃ o, o = off + m := ⟨_, rfl⟩
    have hi1 := fun W => index_part b off n c m h1 W
    rw [← ho] at hi1 hcell
    subst hA
    have HCELL := Lib.hid hcell
    have HRD := Lib.hid hrd
    have HLP := Lib.hid hrd.len
    obtain ⟨y, hy⟩ : ∃ y, y = padTo 32 (ps.getD m []) := ⟨_, rfl⟩
    have hyl : y.length = 32 := by rw [hy, padTo_length]
    have PX : Hid ((List.replicate 32 (Value.int .u8 0)).take 0 ++ ((ps.getD m []).take (min n' 32)).map cellOf ++ (List.replicate 32 (Value.int .u8 0)).drop (0 + min n' 32) = y.map cellOf) := by unfold Hid; rw [hy]; exact pad_cells 32 n' _ hrd.len
    have hvl := sm_length (m : Int)
    obtain ⟨l', hl'⟩ : ∃ l', l' = Tm.put (y, sm (m : Int)) l := ⟨_, rfl⟩
    have HLEN' : Hid (l'.length ≤ m + 1) := by have := (Tm.put_le (y, sm (m : Int)) l).2.2; have := HLN.out; unfold Hid; rw [hl']; omega
    have CS : Hid (∀ W, Calls Tryd.prog 27 #[.int .i64 (m : Int)] W fun e w' => e = .returned (hv (sm (m : Int))) ∧ Below W.heap.size W w') := fun W => sm_any _ W
    have CP : Hid (∀ W, Below w.heap.size w W → TreeAt W g l → Calls Tryd.prog 26 #[.pointer (some ⟨g, 0, none⟩), hv y, hv (sm (m : Int))] W fun e w' => (∃ b, e = .returned (.bool b)) ∧ TreeAt w' g l' ∧ W.grownBy w' (some g)) := fun W h hT => (tput_any (HG.out.below h hsz) hT (Nat.le_trans hsz hgw) (by have := HLN.out; omega) hyl hvl).mono fun e w' ⟨h1, h2⟩ => ⟨⟨_, h1⟩, by rw [hl']; exact h2⟩
    have DW : Hid (∀ W B, Ow2 W B 47 64 (.slice AL nl cl) (pairs l) → Calls Tryd.prog 31 #[.slice AL nl cl, .agg (leafL (y, sm (m : Int))).toArray] W fun e w' => ∃ x, e = .returned x ∧ Ow2 w' W.heap.size 47 64 x (pairs l') ∧ Below W.heap.size W w') := fun W B hO => by rw [hl']; exact rwith_any hO.rds.1 hfit.len (by have := HLN.out; have := HNL.out; omega) (p := (y, sm (m : Int))) hyl hvl
    have HBP : Hid (Tryd.prog.built 47 [(0, .agg (y.map cellOf).toArray), (1, .agg ((sm (m : Int)).map cellOf).toArray)] = some (leafL (y, sm (m : Int))).toArray) := builtPair (by simpa using hyl) (by simpa using hvl)
    unfold hv at CS CP
    have IYC := Lib.hid (hash_info (hyl))
    have OYC := Lib.hid (cells_u8 (y))
    have LYC : Hid (Z.length = ((y).map cellOf).length) := by unfold Hid; rw [List.length_map, hyl, HZL.out]
    obtain ⟨YC, hYC⟩ : ∃ L, L = (y).map cellOf := ⟨_, rfl⟩
    have NYC : Hid (YC.length = 32) := by unfold Hid; rw [hYC, List.length_map, hyl]
    rw [← hYC] at IYC OYC LYC CP HBP PX
    have EYC := Lib.hid hYC
    clear hYC
    have ISC := Lib.hid (hash_info (hvl))
    have OSC := Lib.hid (cells_u8 (sm (m : Int)))
    have LSC : Hid (Z.length = ((sm (m : Int)).map cellOf).length) := by unfold Hid; rw [List.length_map, hvl, HZL.out]
    obtain ⟨SC, hSC⟩ : ∃ L, L = (sm (m : Int)).map cellOf := ⟨_, rfl⟩
    have NSC : Hid (SC.length = 32) := by unfold Hid; rw [hSC, List.length_map, hvl]
    rw [← hSC] at ISC OSC LSC CS CP HBP
    have ESC := Lib.hid hSC
    clear hSC
    obtain ⟨PL, hPL⟩ : ∃ L, L = leafL (y, sm (m : Int)) := ⟨_, rfl⟩
    rw [← hPL] at DW HBP
    clear hPL hl' hy hyl hvl ho hcell hrd hfit
    go_upto_region 10 with (fail)
    clear d1 d2
    obtain ⟨w3, hw3⟩ : ∃ w3, w3 = wr.alloc (.cells (List.replicate 32 (Value.int .u8 0)).toArray 30) := ⟨_, rfl⟩
    obtain ⟨q0, hq0⟩ : ∃ q, q = wr.heap.size := ⟨_, rfl⟩
    have hX : Below wr.heap.size wr w3 := by rw [hw3]; exact alloc_below wr _
    have hwq : w.heap.size ≤ q0 := by rw [hq0]; exact W.out.size
    have B0 : Hid (Blk w3 q0 30 (List.replicate 32 (Value.int .u8 0))) := by unfold Hid; rw [hw3, hq0]; exact Blk.new wr 30 _
    change Code.wp _ _ _ _ (wr.alloc (.cells (List.replicate 32 (Value.int .u8 0)).toArray 30))
    rw [← hw3, ← hq0]
    have hgq : g < q0 := by have := T.out.lt; omega
    clear hw3 hq0
    replace T := Lib.hid (T.out.low hX)
    replace OL := Lib.hid (OL.out.below hX)
    replace W := Lib.hid (W.out.trans (hX.mono W.out.size))
    clear hX
    have hX := (Below.refl w3.heap.size w3).drew
    replace T := Lib.hid (T.out.low hX)
    replace OL := Lib.hid (OL.out.below hX)
    replace B0 := Lib.hid (B0.out.below hX B0.out.lt)
    replace W := Lib.hid (W.out.trans (hX.mono W.out.size))
    clear hX
    refine wp_region_any (by kernel_rfl) ?_
    change wpAny _ _ _ _ _ _ _ (World.drew _)
    generalize w3.drew = wd at *
    refine wpAny_take (i := 0) (oi := ?oi1) (v := .slice (some ⟨q0, 0, none⟩) 32 32) ?hi1 (by kernel_rfl) (by kernel_rfl) (by kernel_rfl) ?hQ1 ?hy1 ?rest1
    case hi1 => simp only [zge]; rfl
    case hQ1 => exact fun _ _ _ h => h
    case hy1 => exact Or.inl ⟨by rfl, by intro w; go_simp⟩
    try simp only [zpt]
    refine wpAny_take (i := 1) (oi := ?oi2) (v := .slice (some ⟨b, off, none⟩) n c) ?hi2 (by kernel_rfl) (by kernel_rfl) (by kernel_rfl) ?hQ2 ?hy2 ?rest2
    case hi2 => simp only [zge]; rfl
    case hQ2 => exact fun _ _ _ h => h
    case hy2 => exact Or.inl ⟨by rfl, by intro w; go_simp⟩
    try simp only [zpt]
    refine wpAny_take (i := 2) (oi := ?oi3) (v := .int .i64 (m : Int)) ?hi3 (by kernel_rfl) (by kernel_rfl) (by kernel_rfl) ?hQ3 ?hy3 ?rest3
    case hi3 => simp only [zge]; rfl
    case hQ3 => exact fun _ _ _ h => h
    case hy3 => exact Or.inl ⟨by rfl, by intro w; go_simp⟩
    try simp only [zpt]
    refine wpAny_take (i := 3) (oi := ?oi4) (v := .pointer (some ⟨b, o, none⟩)) ?hi4 (by kernel_rfl) (by kernel_rfl) (by kernel_rfl) ?hQ4 ?hy4 ?rest4
    case hi4 => simp only [zge]; rfl
    case hQ4 => exact fun _ _ _ h => h
    case hy4 => exact Or.inl ⟨by rfl, by intro w; go_simp⟩
    try simp only [zpt]
    refine phaseL (fun i => []) (fun d a w' => ∃ x29 : Value, a = { tmps := #[.slice (some ⟨b, off, none⟩) n c, undef, .bool false, .bool true, .pointer (some ⟨g, 0, none⟩), .slice AL nl cl, .int .i64 (m : Int), .pointer (some ⟨q0, 0, none⟩), undef, undef, undef, .bool true, .bool true, .bool false, .pointer (some ⟨g, 0, none⟩), .int .i64 (m : Int), .slice (some ⟨b, off, none⟩) n c, .int .i64 (n : Int), .bool true, .bool true, .int .i64 (m : Int), .bool true, .bool true, u23, u24, .slice (some ⟨q0, 0, none⟩) 32 32, .slice (some ⟨b, off, none⟩) n c, .int .i64 (m : Int), .pointer (some ⟨b, o, none⟩), x29, u30, u31, u32, u33, u34, u35, u36, u37, u38, u39, u40, u41, undef, undef, undef, undef, undef, undef, undef, undef, undef, undef, undef, undef, undef, undef, undef, undef, undef, undef, undef, undef, undef, undef, undef, undef, undef, undef, undef, undef, undef, undef, undef, undef, undef, undef, undef, undef, undef, undef, undef, undef, undef, undef, undef, undef, undef, undef, undef, undef, undef, undef, undef, undef, undef, undef, undef, undef, undef], defers := [] } ∧ Hid (Below wd.heap.size wd w') ∧ (d 4 = true → x29 = .slice A' n' c')) [4] ?step5 1 1 [4] _ _ _ rfl (by decide) (fun _ h => h) (Fits.of (by kernel_rfl)) ?init5 ?fin5
    case init5 => refine ⟨_, rfl, Below.refl _ _, ?_⟩ <;> (intro h; exact absurd h (by decide))
    case step5 =>
      intro i hi d a v5 hI hdi hdeps
      obtain ⟨x29, rfl, BW, h4⟩ := hI
      have hsw := BW.out.size
      simp only [List.mem_cons, List.not_mem_nil, or_false] at hi
      subst hi
      have c0 : v5.cell? ⟨b, o, none⟩ = some (.slice A' n' c') := (World.cell?_of_block (a := ⟨b, o, none⟩) ((W.out.trans (BW.out.mono W.out.size)).block b hb)).trans HCELL.out
      refine wpOp_step (o := ?os6) ?hos6 (fun K hK => ?_)
      case hos6 => simp only [zge]; rfl
      go_simp
      refine hK _ _ ?_
      clear hK K
      try simp only [zpt]
      exact ⟨_, rfl, BW, fun _ => rfl⟩
    case fin5 =>
      intro a v5 hI
      obtain ⟨x29, rfl, BW, h4⟩ := hI
      obtain rfl := h4 (by decide)
      clear h4
      have hX := BW.out
      replace T := Lib.hid (T.out.low hX)
      replace OL := Lib.hid (OL.out.below hX)
      replace B0 := Lib.hid (B0.out.below hX B0.out.lt)
      replace W := Lib.hid (W.out.trans (hX.mono W.out.size))
      clear hX BW
      try dsimp only
      refine wpAny_ready (rs := [5]) (by kernel_rfl) (by simp) ?_
      refine AllReady.cons (o := ?p7) ?q7 (fun K hK => ?_) AllReady.nil
      case q7 => simp only [zge]; rfl
      obtain ⟨w5, hcopy, hB5, hO5⟩ := copy_into (off := 0) (dLen := 32) (dCap := 32) B0.out (HRD.out.below W.out) (by simp)
      rw [PX.out] at hB5
      have BH := Lib.hid hB5
      have T5 : Hid (TreeAt w5 g l) := T.out.keep (hO5.block g T.out.lt (fun e => by have := Option.some.inj e; omega)) (.grown hO5 B0.out (by decide) (by decide))
      have O5 : Hid (Ow2 w5 w.heap.size 47 64 (.slice AL nl cl) (pairs l)) := OL.out.keep fun q hq => hO5.block q (World.ownsRow.lt OL.out.own q hq).2 (fun e => OL.out.ne B0.out (by decide) (by rw [hq, e]))
      have W5 : Hid (Below w.heap.size w w5) := below_of_only W.out hO5 hwq W.out.size
      go_simp
      refine hK _ _ ?_
      clear hK K
      try simp only [zpt]
      clear T OL W B0 hB5 hO5 hcopy
      have T := Lib.hid T5.out
      have OL := Lib.hid O5.out
      have W := Lib.hid W5.out
      clear T5 O5 W5
      refine wpAny_done (by kernel_rfl) ?_ _
      go_upto_region 11 with (fail)
      have hX := (Below.refl w5.heap.size w5).drew
      replace T := Lib.hid (T.out.low hX)
      replace OL := Lib.hid (OL.out.below hX)
      replace BH := Lib.hid (BH.out.below hX BH.out.lt)
      replace W := Lib.hid (W.out.trans (hX.mono W.out.size))
      clear hX
      refine wp_region_any (by kernel_rfl) ?_
      change wpAny _ _ _ _ _ _ _ (World.drew _)
      generalize w5.drew = we at *
      refine wpAny_take (i := 0) (oi := ?oi8) (v := .pointer (some ⟨g, 0, none⟩)) ?hi8 (by kernel_rfl) (by kernel_rfl) (by kernel_rfl) ?hQ8 ?hy8 ?rest8
      case hi8 => simp only [zge]; rfl
      case hQ8 => exact fun _ _ _ h => h
      case hy8 => exact Or.inl ⟨by rfl, by intro w; go_simp⟩
      try simp only [zpt]
      refine wpAny_take (i := 2) (oi := ?oi9) (v := .int .i64 (m : Int)) ?hi9 (by kernel_rfl) (by kernel_rfl) (by kernel_rfl) ?hQ9 ?hy9 ?rest9
      case hi9 => simp only [zge]; rfl
      case hQ9 => exact fun _ _ _ h => h
      case hy9 => exact Or.inl ⟨by rfl, by intro w; go_simp⟩
      try simp only [zpt]
      refine phaseL (fun i => []) (fun d a w' => ∃ x32 x34 : Value, a = { tmps := #[.slice (some ⟨b, off, none⟩) n c, undef, .bool false, .bool true, .pointer (some ⟨g, 0, none⟩), .slice AL nl cl, .int .i64 (m : Int), .pointer (some ⟨q0, 0, none⟩), undef, undef, undef, .bool true, .bool true, .bool false, .pointer (some ⟨g, 0, none⟩), .int .i64 (m : Int), .slice (some ⟨b, off, none⟩) n c, .int .i64 (n : Int), .bool true, .bool true, .int .i64 (m : Int), .bool true, .bool true, u23, u24, .slice (some ⟨q0, 0, none⟩) 32 32, .slice (some ⟨b, off, none⟩) n c, .int .i64 (m : Int), .pointer (some ⟨b, o, none⟩), .slice A' n' c', .int .i64 ((min n' 32 : Nat) : Int), .pointer (some ⟨g, 0, none⟩), x32, .int .i64 (m : Int), x34, u35, u36, u37, u38, u39, u40, u41, undef, undef, undef, undef, undef, undef, undef, undef, undef, undef, undef, undef, undef, undef, undef, undef, undef, undef, undef, undef, undef, undef, undef, undef, undef, undef, undef, undef, undef, undef, undef, undef, undef, undef, undef, undef, undef, undef, undef, undef, undef, undef, undef, undef, undef, undef, undef, undef, undef, undef, undef, undef, undef, undef, undef, undef, undef], defers := [] } ∧ Hid (Below we.heap.size we w') ∧ (d 1 = true → x32 = .agg YC.toArray) ∧ (d 3 = true → x34 = .agg SC.toArray)) [1, 3] ?step10 1 2 [1, 3] _ _ _ rfl (by decide) (fun _ h => h) (Fits.of (by kernel_rfl)) ?init10 ?fin10
      case init10 => refine ⟨_, _, rfl, Below.refl _ _, ?_, ?_⟩ <;> (intro h; exact absurd h (by decide))
      case step10 =>
        intro i hi d a v10 hI hdi hdeps
        obtain ⟨x32, x34, rfl, BW, h1, h3⟩ := hI
        have hsw := BW.out.size
        simp only [List.mem_cons, List.not_mem_nil, or_false] at hi
        rcases hi with rfl | rfl
        · refine wpOp_step (o := ?os11) ?hos11 (fun K hK => ?_)
          case hos11 => simp only [zge]; rfl
          refine step_loadW rfl 30 (.tmp 7) rfl q0 0 rfl YC _ Tryd.underlying30 rfl IYC.out (BH.out.below BW.out BH.out.lt).cells (hK _ _ ?_)
          clear hK K
          try simp only [zpt]
          exact ⟨_, _, rfl, BW, fun _ => rfl, fun a => by first | exact h3 (by simpa using a) | rfl⟩
        · refine wpOp_step (o := ?os12) ?hos12 (fun K hK => ?_)
          case hos12 => simp only [zge]; rfl
          go_simp
          refine (CS.out v10 ).mono ?_
          rintro e u10 ⟨rfl, hX⟩
          refine hK _ _ ?_
          clear hK K
          try simp only [zpt]
          exact ⟨_, _, rfl, BW.out.trans (hX.mono hsw), fun a => by first | exact h1 (by simpa using a) | rfl, fun _ => rfl⟩
      case fin10 =>
        intro a v10 hI
        obtain ⟨x32, x34, rfl, BW, h1, h3⟩ := hI
        obtain rfl := h1 (by decide)
        obtain rfl := h3 (by decide)
        clear h1 h3
        have hX := BW.out
        replace T := Lib.hid (T.out.low hX)
        replace OL := Lib.hid (OL.out.below hX)
        replace BH := Lib.hid (BH.out.below hX BH.out.lt)
        replace W := Lib.hid (W.out.trans (hX.mono W.out.size))
        clear hX BW
        try dsimp only
        refine wpAny_ready (rs := [4]) (by kernel_rfl) (by simp) ?_
        refine AllReady.cons (o := ?p13) ?q13 (fun K hK => ?_) AllReady.nil
        case q13 => simp only [zge]; rfl
        go_simp
        refine (CP.out v10 W.out T.out).mono ?_
        rintro e w6 ⟨⟨bq, rfl⟩, hT, hG⟩
        replace OL := Lib.hid (row_keeps T.out OL.out (by decide) hG)
        replace BH := Lib.hid (put_keeps T.out BH.out (by decide) hG)
        replace W : Hid (Below w.heap.size w _) := W.out.grown hG W.out.size (fun q hq => by have h : g = q := Option.some.inj hq; omega)
        replace T := Lib.hid hT
        clear hT hG
        refine hK _ _ ?_
        clear hK K
        try simp only [zpt]
        refine wpAny_done (by kernel_rfl) ?_ _
        go_upto_region 12 with (fail)
        have hX := (Below.refl w6.heap.size w6).drew
        replace T := Lib.hid (T.out.low hX)
        replace OL := Lib.hid (OL.out.below hX)
        replace BH := Lib.hid (BH.out.below hX BH.out.lt)
        replace W := Lib.hid (W.out.trans (hX.mono W.out.size))
        clear hX
        refine wp_region_any (by kernel_rfl) ?_
        change wpAny _ _ _ _ _ _ _ (World.drew _)
        generalize w6.drew = wf at *
        refine wpAny_take (i := 0) (oi := ?oi14) (v := .slice AL nl cl) ?hi14 (by kernel_rfl) (by kernel_rfl) (by kernel_rfl) ?hQ14 ?hy14 ?rest14
        case hi14 => simp only [zge]; rfl
        case hQ14 => exact fun _ _ _ h => h
        case hy14 => exact Or.inl ⟨by rfl, by intro w; go_simp⟩
        try simp only [zpt]
        refine wpAny_take (i := 2) (oi := ?oi15) (v := .int .i64 (m : Int)) ?hi15 (by kernel_rfl) (by kernel_rfl) (by kernel_rfl) ?hQ15 ?hy15 ?rest15
        case hi15 => simp only [zge]; rfl
        case hQ15 => exact fun _ _ _ h => h
        case hy15 => exact Or.inl ⟨by rfl, by intro w; go_simp⟩
        try simp only [zpt]
        refine phaseL (fun i => if i = 4 then [1, 3] else []) (fun d a w' => ∃ x37 x39 x40 : Value, a = { tmps := #[.slice (some ⟨b, off, none⟩) n c, undef, .bool false, .bool true, .pointer (some ⟨g, 0, none⟩), .slice AL nl cl, .int .i64 (m : Int), .pointer (some ⟨q0, 0, none⟩), undef, undef, undef, .bool true, .bool true, .bool false, .pointer (some ⟨g, 0, none⟩), .int .i64 (m : Int), .slice (some ⟨b, off, none⟩) n c, .int .i64 (n : Int), .bool true, .bool true, .int .i64 (m : Int), .bool true, .bool true, u23, u24, .slice (some ⟨q0, 0, none⟩) 32 32, .slice (some ⟨b, off, none⟩) n c, .int .i64 (m : Int), .pointer (some ⟨b, o, none⟩), .slice A' n' c', .int .i64 ((min n' 32 : Nat) : Int), .pointer (some ⟨g, 0, none⟩), .agg YC.toArray, .int .i64 (m : Int), .agg SC.toArray, .bool bq, .slice AL nl cl, x37, .int .i64 (m : Int), x39, x40, u41, undef, undef, undef, undef, undef, undef, undef, undef, undef, undef, undef, undef, undef, undef, undef, undef, undef, undef, undef, undef, undef, undef, undef, undef, undef, undef, undef, undef, undef, undef, undef, undef, undef, undef, undef, undef, undef, undef, undef, undef, undef, undef, undef, undef, undef, undef, undef, undef, undef, undef, undef, undef, undef, undef, undef, undef, undef], defers := [] } ∧ Hid (Below wf.heap.size wf w') ∧ (d 1 = true → x37 = .agg YC.toArray) ∧ (d 3 = true → x39 = .agg SC.toArray) ∧ (d 4 = true → x40 = .agg PL.toArray)) [1, 3, 4] ?step16 2 3 [1, 3, 4] _ _ _ rfl (by decide) (fun _ h => h) (Fits.of (by kernel_rfl)) ?init16 ?fin16
        case init16 => refine ⟨_, _, _, rfl, Below.refl _ _, ?_, ?_, ?_⟩ <;> (intro h; exact absurd h (by decide))
        case step16 =>
          intro i hi d a v16 hI hdi hdeps
          obtain ⟨x37, x39, x40, rfl, BW, h1, h3, h4⟩ := hI
          have hsw := BW.out.size
          simp only [List.mem_cons, List.not_mem_nil, or_false] at hi
          rcases hi with rfl | rfl | rfl
          · refine wpOp_step (o := ?os17) ?hos17 (fun K hK => ?_)
            case hos17 => simp only [zge]; rfl
            refine step_loadW rfl 30 (.tmp 7) rfl q0 0 rfl YC _ Tryd.underlying30 rfl IYC.out (BH.out.below BW.out BH.out.lt).cells (hK _ _ ?_)
            clear hK K
            try simp only [zpt]
            exact ⟨_, _, _, rfl, BW, fun _ => rfl, fun a => by first | exact h3 (by simpa using a) | rfl, fun a => by first | exact h4 (by simpa using a) | rfl⟩
          · refine wpOp_step (o := ?os18) ?hos18 (fun K hK => ?_)
            case hos18 => simp only [zge]; rfl
            go_simp
            refine (CS.out v16 ).mono ?_
            rintro e u16 ⟨rfl, hX⟩
            refine hK _ _ ?_
            clear hK K
            try simp only [zpt]
            exact ⟨_, _, _, rfl, BW.out.trans (hX.mono hsw), fun a => by first | exact h1 (by simpa using a) | rfl, fun _ => rfl, fun a => by first | exact h4 (by simpa using a) | rfl⟩
          · obtain rfl := h1 (hdeps 1 (by simp))
            obtain rfl := h3 (hdeps 3 (by simp))
            refine wpOp_step (o := ?os19) ?hos19 (fun K hK => ?_)
            case hos19 => simp only [zge]; rfl
            refine step_build rfl 47 #[(0, .tmp 37), (1, .tmp 39)] rfl PL (by simp only [List.map_toArray, List.map_cons, List.map_nil]; exact HBP.out) (hK _ _ ?_)
            clear hK K
            try simp only [zpt]
            exact ⟨_, _, _, rfl, BW, fun a => by first | exact h1 (by simpa using a) | rfl, fun a => by first | exact h3 (by simpa using a) | rfl, fun _ => rfl⟩
        case fin16 =>
          intro a v16 hI
          obtain ⟨x37, x39, x40, rfl, BW, h1, h3, h4⟩ := hI
          obtain rfl := h1 (by decide)
          obtain rfl := h3 (by decide)
          obtain rfl := h4 (by decide)
          clear h1 h3 h4
          have hX := BW.out
          replace T := Lib.hid (T.out.low hX)
          replace OL := Lib.hid (OL.out.below hX)
          replace BH := Lib.hid (BH.out.below hX BH.out.lt)
          replace W := Lib.hid (W.out.trans (hX.mono W.out.size))
          clear hX BW
          try dsimp only
          refine wpAny_ready (rs := [5]) (by kernel_rfl) (by simp) ?_
          refine AllReady.cons (o := ?p20) ?q20 (fun K hK => ?_) AllReady.nil
          case q20 => simp only [zge]; rfl
          go_simp
          refine (DW.out v16 _ OL.out).mono ?_
          rintro e w7 ⟨lx, rfl, hO, hX⟩
          have W7S := W.out.size
          replace T := Lib.hid (T.out.low hX)
          replace OL := Lib.hid (OL.out.below hX)
          replace BH := Lib.hid (BH.out.below hX BH.out.lt)
          replace W := Lib.hid (W.out.trans (hX.mono W.out.size))
          have OX := Lib.hid (hO.base W7S)
          clear hX hO
          refine hK _ _ ?_
          clear hK K
          try simp only [zpt]
          refine wpAny_take (i := 6) (oi := ?oi21) (v := lx) ?hi21 (by kernel_rfl) (by kernel_rfl) (by kernel_rfl) ?hQ21 ?hy21 ?rest21
          case hi21 => simp only [zge]; rfl
          case hQ21 => exact fun _ _ _ h => h
          case hy21 => exact Or.inl ⟨by rfl, by intro w; go_simp⟩
          try simp only [zpt]
          refine wpAny_done (by kernel_rfl) ?_ _
          go_wp2_with fail
          go_roundw
          case rel => exact ⟨m + 1, l', by omega, by go_num, HLEN', T, OX, W⟩
          case measure => simp [intOf]; omega
end Go.Proofs.YtmidbpjdpakkoaaDoor.treeAny
