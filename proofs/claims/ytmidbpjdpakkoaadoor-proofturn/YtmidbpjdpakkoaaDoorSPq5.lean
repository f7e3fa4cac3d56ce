import Derived.Test.YtmidbpjdpakkoaaDoorSPq4
import Derived.Test.YtmidbpjdpakkoaaDoorSTpf
namespace Go.Proofs.YtmidbpjdpakkoaaDoor
set_option linter.unusedVariables false
set_option linter.unusedSimpArgs false
set_option maxRecDepth 100000
open Go.RowKit
theorem hashes_append (a b : List (List UInt8)) : (hashes (a ++ b)).flatten = (hashes a).flatten ++ (hashes b).flatten := by unfold hashes; rw [List.map_append, List.flatten_append]
theorem hashes_cells {l : List (List UInt8)} (he : ∀ x ∈ l, x.length = 32) : ∀ x ∈ hashes l, x.length = 32 := fun x hx => by
  obtain ⟨y, hy, rfl⟩ := List.mem_map.1 hx
  rw [List.length_map]; exact he y hy
theorem hashes_length {l : List (List UInt8)} (he : ∀ x ∈ l, x.length = 32) : (hashes l).flatten.length = l.length * 32 := by
  rw [flat_len (hashes_cells he)]; simp [hashes]
theorem hashes_one {l : List (List UInt8)} : ∀ v ∈ (hashes l).flatten, v.oneCell' = true := fun v hv => by
  obtain ⟨x, hx, hvx⟩ := List.mem_flatten.1 hv
  obtain ⟨y, _, rfl⟩ := List.mem_map.1 hx
  exact cells_u8 y v hvx
theorem noughts_each (n : Nat) : ∀ x ∈ List.replicate n Tm.none32, x.length = 32 := fun x hx => by rw [(List.mem_replicate.1 hx).2]; rfl
theorem rd2_blk {w : World} {g : Nat} {l : List (List UInt8)} (hb : Blk w g 30 (hashes l).flatten) (he : ∀ x ∈ l, x.length = 32) (hn : l.length ≤ 1000) : Rd2 w 32 (some ⟨g, 0, none⟩) l.length l.length (hashes l) :=
  ⟨by simp [hashes], Nat.le_refl _, by unfold maxLen; omega, fun h0 => ⟨g, 0, rfl, hb.lt, fun j hj i x hx => by
    have hi : i < 32 := by
      rw [hashes_get hj] at hx
      have := (List.getElem?_eq_some_iff.1 hx).1
      rw [List.length_map, he _ (List.getElem_mem hj)] at this
      exact this
    rw [Nat.zero_add, hb.cell, flat_get (hashes_cells he) (by simpa [hashes] using hj) i hi, hx]⟩⟩
theorem noughts_cells (n : Nat) : (hashes (List.replicate n Tm.none32)).flatten = List.replicate (n * 32) (Value.int .u8 0) := by
  refine List.eq_replicate_iff.2 ⟨by rw [hashes_length (noughts_each n), List.length_replicate], fun b hb => ?_⟩
  obtain ⟨x, hx, hvx⟩ := List.mem_flatten.1 hb
  obtain ⟨y, hy, rfl⟩ := List.mem_map.1 hx
  rw [(List.mem_replicate.1 hy).2] at hvx
  rw [show Tm.none32.map cellOf = (List.replicate 32 (Value.int .u8 0)) from rfl] at hvx
  exact (List.mem_replicate.1 hvx).2
theorem made_noughts (k : Nat) : (madeCells (Value.agg (List.replicate 32 (Value.int .u8 0)).toArray).cells k) = (List.replicate k (Value.int .u8 0)).toArray := by
  apply Array.ext'
  refine List.eq_replicate_iff.2 ⟨by simp [madeCells], fun b hb => ?_⟩
  simp only [madeCells, Array.toList_map, List.mem_map] at hb
  obtain ⟨i, _, rfl⟩ := hb
  have h : ∀ j, j < 32 → ((Value.agg (List.replicate 32 (Value.int .u8 0)).toArray).cells)[j]! = Value.int .u8 0 := fun j hj => by
    show ((List.replicate 32 (Value.int .u8 0)).toArray)[j]! = _
    rw [getElem!_pos _ _ (by simpa using hj), List.getElem_toArray]
    exact List.getElem_replicate _
  have hs : (Value.agg (List.replicate 32 (Value.int .u8 0)).toArray).cells.size = 32 := by kernel_rfl
  rw [hs]
  exact h (i % 32) (Nat.mod_lt _ (by decide))
theorem make_hashes (n : Nat) (h : n ≤ 300) (W : World) : (Instr.makeSlice 36 (.int .i64 (n : Int)) (.int .i64 (n : Int))).run Tryd.prog W = .ok (.slice (some ⟨W.heap.size, 0, none⟩) n n) (W.alloc (.cells (hashes (List.replicate n Tm.none32)).flatten.toArray 30)) := by
  obtain ⟨i0, hi, hz0, hz1, hz2⟩ := info_parts infoHash
  have hr := run_make (P := Tryd.prog) W 36 30 i0 _ Tryd.underlying36 hi hz0 .i64 .i64 (n : Int) (n : Int) (by omega) (by omega) (by rw [hz2]; omega) (by omega)
  rw [hz1, Int.toNat_natCast, made_noughts] at hr
  rw [hr, noughts_cells]
theorem run_copy_rows {P : Program} (w : World) (dT sT ty elem : TypeId) (g dLen dCap : Nat) (sp : Option Addr) (sLen sCap s : Nat) (cur : List Value) (t : TypeId) (cs : List Value)
    (hu : P.underlying dT = some (.slice elem)) (hs : (P.info? elem).map (·.size) = some s)
    (hg : Blk w g t cur) (hn : cs.length = sLen * s) (hle : sLen ≤ dLen) (hsrc : 0 < sLen → ∃ a, sp = some a ∧ ∀ j v, cs[j]? = some v → w.cell? (a.add j) = some v) (hfit : cs.length ≤ cur.length) (h1 : ∀ v ∈ cs, v.oneCell' = true) :
    (Builtin.copy_ #[dT, sT] ty #[.slice (some ⟨g, 0, none⟩) dLen dCap, .slice sp sLen sCap]).run P w = .ok (goInt sLen) (w.setRow g (cs ++ cur.drop cs.length).toArray) := by
  have hst := run_storeCells_at P g 0 t cs 0 cur.toArray w hg (by simpa using hfit) h1
  simp only [List.take_zero, List.nil_append, Nat.zero_add] at hst
  have hmin : Nat.min sLen dLen = sLen := Nat.min_eq_left hle
  cases hq : P.info? elem with
  | none => simp [hq] at hs
  | some i =>
    have hi : i.size = s := by simpa [hq] using hs
    by_cases h0 : 0 < sLen
    · obtain ⟨a, rfl, hs2⟩ := hsrc h0
      have hl := run_loadCells_list (P := P) w a cs hs2
      simp [Builtin.copy_, run_underlying hu, Builtin.lenOf, Builtin.firstCells, sizeOf, typeInfo, hq, hi, hmin, ← hn, hl, hst]
    · obtain rfl : sLen = 0 := by omega
      obtain rfl : cs = [] := List.eq_nil_of_length_eq_zero (by simpa using hn)
      cases sp with
      | none => simp [Builtin.copy_, run_underlying hu, Builtin.lenOf, Builtin.firstCells, sizeOf, typeInfo, hq, hst] <;> simpa using hst
      | some a =>
        have hl := run_loadCells_list (P := P) w a [] (fun j v h => by simp at h)
        simp [Builtin.copy_, run_underlying hu, Builtin.lenOf, Builtin.firstCells, sizeOf, typeInfo, hq] at hl ⊢
        simp at hst
        simp [hl, hst]
theorem copy_rows_law {P : Program} {w : World} {ops : Array Oper} {rest : List Oper} {o : Oper} {a : Act} {Q : Exit → Act → World → Prop} (hgd : o.guard = none) (d x : Operand) (dT sT : TypeId)
    (ho : o.op = .call { callee := .builtin .copy, args := #[d, x], argTypes := #[dT, sT] }) (elem : TypeId) (s : Nat) (hu : P.underlying dT = some (.slice elem)) (hs : (P.info? elem).map (·.size) = some s)
    (g dLen dCap : Nat) (sp : Option Addr) (sLen sCap : Nat) (hd : a.eval d = .slice (some ⟨g, 0, none⟩) dLen dCap) (hx : a.eval x = .slice sp sLen sCap)
    (cur : List Value) (t : TypeId) (cs : List Value) (hg : Blk w g t cur) (hn : cs.length = sLen * s) (hle : sLen ≤ dLen) (hsrc : 0 < sLen → ∃ a, sp = some a ∧ ∀ j v, cs[j]? = some v → w.cell? (a.add j) = some v) (hfit : cs.length ≤ cur.length) (h1 : ∀ v ∈ cs, v.oneCell' = true)
    (B : Nat) (w0 : World) (hbel : Below B w0 w) (hBg : B ≤ g)
    (hk : ∀ w', Hid (Blk w' g t (cs ++ cur.drop cs.length)) → Hid (Below B w0 w') → wpList P ops Q rest (a.put o.dst (goInt sLen)) w') : wpList P ops Q (o :: rest) a w := by
  refine wpList_plain hgd fun K hK => ?_
  have hrun := run_copy_rows (P := P) w dT sT o.type elem g dLen dCap sp sLen sCap s cur t cs hu hs hg hn hle hsrc hfit h1
  unfold Oper.wp
  simp only [execOp, ho]
  simp [resolve, invoke, builtin, hd, hx, hrun, Result.andThen]
  exact hK _ _ (hk _ hg.row (below_setRow hbel hBg _))
def SidesAt (w : World) (v : Value) (l : List (List UInt8)) : Prop := ∃ A c, v = .slice A l.length c ∧ Rd2 w 32 A l.length c (hashes l)
theorem SidesAt.below {w w' : World} {v : Value} {l : List (List UInt8)} (h : SidesAt w v l) (hb : Below w.heap.size w w') : SidesAt w' v l := by
  obtain ⟨A, c, e, hR⟩ := h
  exact ⟨A, c, e, hR.below hb⟩
set_option maxRecDepth 100000 in
set_option maxHeartbeats 2000000 in
theorem psides_any {w : World} (hg : Gl w) {x : Value} {p : Tm.Prf} (hp : PrfIn w x p) {k : List UInt8} (hk : k.length = 32) (hgood : p.good k = true) : Calls Tryd.prog 48 #[hv k, x] w fun e w' => ∃ v, e = .returned v ∧ SidesAt w' v (p.beside k) ∧ Below w.heap.size w w' := by
  have EK := Lib.hid (hash_eq p.lab k hp.lab hk)
  have IK := Lib.hid (hash_info hk)
  have htl : p.tip.length = 32 := by unfold Tm.Prf.tip; split; exact Tm.leaf_length _ _; rfl
  have IT := Lib.hid (hash_info htl)
  have OT := Lib.hid (cells_u8 p.tip)
  have LT : Hid ((p.tip.map cellOf).length = 32) := by unfold Hid; rw [List.length_map, htl]
  have HB0 : Hid (p.has = false → p.beside k = p.sides) := fun h => by unfold Tm.Prf.beside; rw [h]; rfl
  have HB1 : Hid (p.lab = k → p.beside k = p.sides) := fun h => by unfold Tm.Prf.beside Tm.Prf.there; rw [h]; cases p.has <;> simp
  have HB2 : Hid (p.has = true → ¬ p.lab = k → p.beside k = p.sides ++ List.replicate (Tm.part p.lab k - p.sides.length) Tm.none32 ++ [p.tip]) := fun h h2 => by unfold Tm.Prf.beside Tm.Prf.there Tm.Prf.tip; rw [h]; simp [h2]
  have HM : Hid (p.has = true → ¬ p.lab = k → p.sides.length ≤ Tm.part p.lab k ∧ Tm.part p.lab k < 256) := fun h h2 => by
    rw [good_may, Bool.and_eq_true] at hgood
    have h3 := hgood.2
    unfold may at h3
    rw [h, if_pos rfl] at h3
    refine ⟨of_decide_eq_true h3, ?_⟩
    rcases Nat.lt_or_ge (Tm.part p.lab k) 256 with h4 | h4
    · exact h4
    · exact absurd (Tm.bits_eq hp.lab hk fun i hi => Tm.part_same (by omega)) h2
  have CS : Hid (∀ W, Calls Tryd.prog 56 #[hv p.lab, hv k] W fun e w' => e = .returned (.int .i64 (Tm.part p.lab k : Int)) ∧ Below W.heap.size W w') := fun W => shared_any hp.lab hk W
  have CE : Hid (∀ W, Below w.heap.size w W → Calls Tryd.prog 54 #[x] W fun e w' => e = .returned (hv p.tip) ∧ Below W.heap.size W w') := fun W h => pend_any (hg.below h hg.size) (hp.below h)
  obtain ⟨A, n, c, hx, hr, hn1⟩ := hp.at_
  have hln : p.sides.length = n := by rw [← hr.len]; simp [hashes]
  have HLN := Lib.hid hln
  have HR := Lib.hid hr
  have HE := Lib.hid hp.each
  have IA := Lib.hid (hash_info hp.lab)
  have IM := Lib.hid (hash_info hp.sum)
  have IZ := Lib.hid zero_info
  have OZ := Lib.hid zero_one
  have BZ0 := Lib.hid zero_built
  have HP := Lib.hid hp
  obtain ⟨PP, hPP⟩ : ∃ L, L = proofL (.slice A n c) p.has (p.lab.map cellOf) (p.sum.map cellOf) := ⟨_, rfl⟩
  have IP : Hid ((Tryd.prog.info? 38).map (·.size) = some PP.length) := by unfold Hid; rw [hPP]; exact proofL_info (by simpa using hp.lab) (by simpa using hp.sum)
  have LA : Hid (∀ W g, Blk W g 38 PP → ∀ j y, (p.lab.map cellOf)[j]? = some y → W.cell? ⟨g, 2 + j, none⟩ = some y) := fun W g h => by rw [hPP] at h; exact proof_lab h (by simpa using hp.lab)
  have LM : Hid (∀ W g, Blk W g 38 PP → ∀ j y, (p.sum.map cellOf)[j]? = some y → W.cell? ⟨g, 34 + j, none⟩ = some y) := fun W g h => by rw [hPP] at h; exact proof_sum h (by simpa using hp.lab)
  have L0 : Hid (∀ W g, Blk W g 38 PP → W.cell? ⟨g, 0, none⟩ = some (.slice A n c)) := fun W g h => by rw [hPP] at h; exact h.cell 0
  have L1 : Hid (∀ W g, Blk W g 38 PP → W.cell? ⟨g, 1, none⟩ = some (.bool p.has)) := fun W g h => by rw [hPP] at h; exact h.cell 1
  rw [← hPP] at hx
  subst hx
  obtain ⟨w1, hw1⟩ : ∃ w1, w1 = (w.alloc (.cells (k.map cellOf).toArray 30)).alloc (.cells PP.toArray 38) := ⟨_, rfl⟩
  have X1 : Hid (Below w.heap.size w w1) := by unfold Hid; rw [hw1]; exact (((Below.refl _ _).alloc (Nat.le_refl _) _).alloc (by simp; try omega) _)
  have BLB : Hid (Blk w1 w.heap.size 30 (k.map cellOf)) := by unfold Hid; rw [hw1]; exact ((Blk.new w 30 _).alloc _)
  have BPR : Hid (Blk w1 (w.heap.size + 1) 38 PP) := by unfold Hid; rw [hw1]; exact (Blk.at_new _ _ 38 _ _ rfl (by simp))
  unfold hv at CS CE ⊢
  obtain ⟨KC, hKC⟩ : ∃ L, L = k.map cellOf := ⟨_, rfl⟩
  obtain ⟨AC, hAC⟩ : ∃ L, L = p.lab.map cellOf := ⟨_, rfl⟩
  obtain ⟨TC, hTC⟩ : ∃ L, L = p.tip.map cellOf := ⟨_, rfl⟩
  rw [← hKC] at CS EK IK BLB hw1 ⊢
  rw [← hAC] at CS EK IA LA
  rw [← hTC] at CE IT OT LT
  have ETC := Lib.hid hTC
  obtain ⟨m, hm⟩ : ∃ m, m = Tm.part p.lab k := ⟨_, rfl⟩
  rw [← hm] at CS HB2 HM
  obtain ⟨bs, hbs⟩ : ∃ l, l = p.beside k := ⟨_, rfl⟩
  rw [← hbs] at HB0 HB1 HB2 ⊢
  obtain ⟨has, hhas⟩ : ∃ b, b = p.has := ⟨_, rfl⟩
  rw [← hhas] at HB0 HB2 HM L1
  have p0 := L0.out _ _ BPR.out
  have p1 := L1.out _ _ BPR.out
  have LA1 := Lib.hid (LA.out _ _ BPR.out)
  have HSD := Lib.hid (hashes_length hp.each)
  clear hKC hAC hTC hm hbs hhas hp hr hPP hln hk hg htl hgood LM IM
  go_enter Tryd.func48, Tryd.ntmps48
  go_upto_region 1 with (fail)
  change Code.wp _ _ _ _ ((w.alloc (.cells KC.toArray 30)).alloc (.cells PP.toArray 38))
  rw [← hw1]
  clear hw1
  cases has with
  | false =>
    have EB := Lib.hid (HB0.out rfl)
    go_wp2_with fail
    go_ret
    exact ⟨_, rfl, ⟨A, c, by rw [EB.out, HLN.out]; rfl, by rw [EB.out, HLN.out]; exact HR.out.below X1.out⟩, X1.out⟩
  | true =>
    by_cases hlk : p.lab = k
    · have ek := EK.out
      rw [decide_eq_true hlk] at ek
      have EB := Lib.hid (HB1.out hlk)
      clear EK hlk
      go_wp2_with (first
        | (with_reducible refine load_when (by kernel_rfl) 30 (.tmp 11) rfl (w.heap.size + 1) 2 rfl AC _ Tryd.underlying30 rfl IA.out LA1.out ?_)
        | (with_reducible refine load_when (by kernel_rfl) 30 (.tmp 2) rfl w.heap.size 0 rfl KC _ Tryd.underlying30 rfl IK.out BLB.out.cells ?_))
      go_ret
      exact ⟨_, rfl, ⟨A, c, by rw [EB.out, HLN.out]; rfl, by rw [EB.out, HLN.out]; exact HR.out.below X1.out⟩, X1.out⟩
    · have ek := EK.out
      rw [decide_eq_false hlk] at ek
      have EB := Lib.hid (HB2.out rfl hlk)
      obtain ⟨hnm, hm256⟩ := HM.out rfl hlk
      rw [HLN.out] at hnm EB
      clear EK hlk HB0 HB1 HB2 HM
      go_upto_region 3 with (first
        | (with_reducible refine load_when (by kernel_rfl) 30 (.tmp 11) rfl (w.heap.size + 1) 2 rfl AC _ Tryd.underlying30 rfl IA.out LA1.out ?_)
        | (with_reducible refine load_when (by kernel_rfl) 30 (.tmp 2) rfl w.heap.size 0 rfl KC _ Tryd.underlying30 rfl IK.out BLB.out.cells ?_))
      clear ek p0 p1
      go_upto_region 4 with (first
        | (with_reducible refine load_law rfl 30 (.tmp 18) rfl (w.heap.size + 1) 2 rfl AC _ Tryd.underlying30 rfl IA.out LA1.out ?_)
        | (with_reducible refine load_law rfl 30 (.tmp 2) rfl w.heap.size 0 rfl KC _ Tryd.underlying30 rfl IK.out BLB.out.cells ?_)
        | (go_at_call 56; refine (CS.out w1).mono ?_; rintro e w2 ⟨rfl, hX⟩; have X2 := Lib.hid hX; clear hX))
      have h1s := X1.out.size
      have BPR2 := Lib.hid (BPR.out.below X2.out BPR.out.lt)
      have W2 := Lib.hid (X1.out.trans (X2.out.mono h1s))
      have h2s := W2.out.size
      have hb2 := BPR2.out.lt
      clear BLB BPR X1 X2 LA1 CS
      have hwr : IntKind.i64.wrap ((m : Int) + 1) = ((m + 1 : Nat) : Int) := by rw [IntKind.wrap_i64]; omega
      obtain ⟨m1, hm1⟩ : ∃ z, z = m + 1 := ⟨_, rfl⟩
      have hm1i : (m1 : Int) = (m : Int) + 1 := by omega
      have hmk : ∀ W : World, (Instr.makeSlice 36 (.int .i64 ((m : Int) + 1)) (.int .i64 ((m : Int) + 1))).run Tryd.prog W = .ok (.slice (some ⟨W.heap.size, 0, none⟩) m1 m1) (W.alloc (.cells (hashes (List.replicate m1 Tm.none32)).flatten.toArray 30)) := fun W => by rw [← hm1i]; exact make_hashes m1 (by omega) W
      rw [← hm1, hm1i] at hwr
      have HM1 := Lib.hid hm1
      have hqn : n ≤ m1 := by omega
      have hmm : m < m1 := by omega
      have hm300 : m1 ≤ 300 := by omega
      clear hm1 hm1i
      obtain ⟨NC, hNC⟩ : ∃ L, L = (hashes (List.replicate m1 Tm.none32)).flatten := ⟨_, rfl⟩
      rw [← hNC] at hmk
      have ENC := Lib.hid hNC
      have HNL : Hid (NC.length = m1 * 32) := by unfold Hid; rw [hNC, hashes_length (noughts_each _), List.length_replicate]
      clear hNC
      go_upto_region 5 with (fail)
      clear hmk hwr
      have X3 := Lib.hid (alloc_below w2 (.cells NC.toArray 30))
      have BQ := Lib.hid (Blk.new w2 30 NC)
      have BPR3 := Lib.hid (BPR2.out.below X3.out hb2)
      have W3 := Lib.hid (W2.out.trans (X3.out.mono h2s))
      obtain ⟨q, hq⟩ : ∃ q, q = w2.heap.size := ⟨_, rfl⟩
      rw [← hq] at BQ ⊢
      have hqw : w.heap.size ≤ q := by omega
      have hbq : w.heap.size + 1 < q := by omega
      clear hq
      generalize w2.alloc (.cells NC.toArray 30) = w3 at *
      have HR3 := Lib.hid (HR.out.below W3.out)
      have p0 := L0.out _ _ BPR3.out
      obtain ⟨SC, hSC⟩ : ∃ L, L = (hashes p.sides).flatten := ⟨_, rfl⟩
      have HSL : Hid (SC.length = n * 32) := by unfold Hid; rw [hSC, HSD.out, HLN.out]
      have HS1 : Hid (∀ v ∈ SC, v.oneCell' = true) := by unfold Hid; rw [hSC]; exact hashes_one
      have HSF : Hid (SC.length ≤ NC.length) := by unfold Hid; rw [HSL.out, HNL.out]; omega
      have HSR : Hid (0 < n → ∃ a, A = some a ∧ ∀ j v, SC[j]? = some v → w3.cell? (a.add j) = some v) := fun h0 => by
        obtain ⟨b, off, rfl, _, hc⟩ := HR3.out.at_ h0
        refine ⟨_, rfl, fun j v hv => ?_⟩
        have hj := (List.getElem?_eq_some_iff.1 hv).1
        rw [HSL.out] at hj
        have hv' : (hashes p.sides).flatten[j / 32 * 32 + j % 32]? = some v := by rw [← hSC, show j / 32 * 32 + j % 32 = j by omega]; exact hv
        rw [flat_get (hashes_cells HE.out) (by rw [HR3.out.len]; omega) _ (by omega)] at hv'
        rw [add_plain]
        have := hc (j / 32) (by omega) (j % 32) v hv'
        rwa [show off + j / 32 * 32 + j % 32 = off + j by omega] at this
      have ESC := Lib.hid hSC
      have IHS : Hid ((Tryd.prog.info? 30).map (·.size) = some 32) := by unfold Hid; kernel_rfl
      clear hSC HSD
      go_upto_region 6 with (first
        | ((with_reducible refine copy_rows_law rfl (.tmp 25) (.tmp 27) 36 36 rfl 30 32 Tryd.underlying36 IHS.out q m1 m1 A n c rfl rfl NC 30 SC BQ.out HSL.out hqn HSR.out HSF.out HS1.out q w3 (Below.refl _ _) (Nat.le_refl _) ?_); intro w4 B4 X4))
      have W4 := Lib.hid (W3.out.trans (X4.out.mono hqw))
      have BPR4 := Lib.hid (BPR3.out.below X4.out (by omega))
      clear p0 HSR HR3 BQ W3 BPR3 X4
      obtain ⟨o, ho⟩ : ∃ o, o = m * 32 := ⟨_, rfl⟩
      have hi : ∀ W, (Instr.indexAt 36 (.slice (some ⟨q, 0, none⟩) m1 m1) (.int .i64 (m : Int))).run Tryd.prog W = .ok (.pointer (some ⟨q, o, none⟩)) W := fun W => by rw [ho, index_hash q 0 m1 m1 m (by omega) W, Nat.zero_add]
      have HSF4 : Hid (o + TC.length ≤ (SC ++ NC.drop SC.length).length) := by unfold Hid; rw [LT.out, List.length_append, List.length_drop, HSL.out, HNL.out]; have := HM1.out; omega
      have hnew : (SC ++ NC.drop SC.length).take o ++ TC ++ (SC ++ NC.drop SC.length).drop (o + TC.length) = (hashes bs).flatten := by
        rw [LT.out, HSL.out, ENC.out, HM1.out, show m + 1 = n + ((m - n) + 1) by omega, ← List.replicate_append_replicate, hashes_append, List.drop_append_of_le_length (by rw [hashes_length (noughts_each _), List.length_replicate]; exact Nat.le_refl _), List.drop_of_length_le (by rw [hashes_length (noughts_each _), List.length_replicate]; exact Nat.le_refl _), List.nil_append, ← List.replicate_append_replicate, hashes_append, ← List.append_assoc]
        have hP : (SC ++ (hashes (List.replicate (m - n) Tm.none32)).flatten).length = o := by rw [List.length_append, HSL.out, hashes_length (noughts_each _), List.length_replicate]; omega
        rw [List.take_append_of_le_length (by omega), List.take_of_length_le (by omega), List.drop_of_length_le (by rw [List.length_append, hP, hashes_length (noughts_each _), List.length_replicate]; omega), List.append_nil, EB.out, hashes_append, hashes_append, ESC.out, ETC.out]
        simp [hashes]
      obtain ⟨C4, hC4⟩ : ∃ C, C = SC ++ NC.drop SC.length := ⟨_, rfl⟩
      rw [← hC4] at B4 HSF4 hnew
      have HNEW := Lib.hid hnew
      have hb4 := B4.out.lt
      have hbl : bs.length = m1 := by rw [EB.out]; simp; rw [HLN.out]; have := HM1.out; omega
      have hbe : ∀ x ∈ bs, x.length = 32 := fun x hx => by
        rw [EB.out, List.mem_append, List.mem_append] at hx
        rcases hx with (hx | hx) | hx
        · exact HE.out x hx
        · exact noughts_each _ x hx
        · rw [List.mem_singleton.1 hx]; have := LT.out; rwa [ETC.out, List.length_map] at this
      have HBE := Lib.hid hbe
      clear hC4 hnew ho hbe HSL HNL ENC ESC HSF HS1
      go_upto_region 7 with (first
        | (with_reducible refine load_law rfl 38 (.tmp 3) rfl (w.heap.size + 1) 0 rfl PP _ Tryd.underlying38 rfl IP.out BPR4.out.cells ?_)
        | (go_at_call 54; refine (CE.out w4 W4.out).mono ?_; rintro e w5 ⟨rfl, hX⟩; have X5 := Lib.hid hX; clear hX; have B5 := Lib.hid (B4.out.below X5.out hb4))
        | (with_reducible refine store_law rfl 30 (.tmp 33) (.tmp 32) rfl q o rfl TC rfl 30 C4 B5.out IT.out HSF4.out OT.out ?_))
      have BF : Hid (Blk (w5.setRow q (C4.take o ++ TC ++ C4.drop (o + TC.length)).toArray) q 30 (hashes bs).flatten) := by unfold Hid; rw [← HNEW.out]; exact B5.out.row
      have WF : Hid (Below w.heap.size w (w5.setRow q (C4.take o ++ TC ++ C4.drop (o + TC.length)).toArray)) := below_setRow (W4.out.trans (X5.out.mono W4.out.size)) hqw _
      generalize w5.setRow q (C4.take o ++ TC ++ C4.drop (o + TC.length)).toArray = w6 at *
      go_wp2_with fail
      go_ret
      exact ⟨_, rfl, ⟨_, m1, by rw [hbl]; rfl, by have := rd2_blk BF.out HBE.out (by omega); rw [hbl] at this ⊢; exact this⟩, WF.out⟩
end Go.Proofs.YtmidbpjdpakkoaaDoor
