import Derived.Test.YtmidbpjdpakkoaaDoorSTp
namespace Go.Proofs.YtmidbpjdpakkoaaDoor
set_option linter.unusedVariables false
set_option linter.unusedSimpArgs false
set_option maxRecDepth 100000
open Go.RowKit
theorem node_sides {w : World} {g : Nat} {h : List UInt8} {q a b : Option Nat} (hb : Blk w g 72 (nodeL h q a b)) (hl : h.length = 32) : ∀ j v, [ptr a, ptr b][j]? = some v → w.cell? ⟨g, 33 + j, none⟩ = some v := fun j v hv => by
  have hj : j < 2 := (List.getElem?_eq_some_iff.1 hv).1
  rw [hb.cell, nodeL, List.getElem?_append_right (by simp [hl]; omega), List.length_map, hl, show 33 + j - 32 = j + 1 by omega, List.getElem?_cons_succ, hv]
theorem pair_info (a b : Option Nat) : (Tryd.prog.info? 70).map (·.size) = some [ptr a, ptr b].length := by kernel_rfl
theorem ptr_one (a : Option Nat) : (ptr a).oneCell' = true := rfl
theorem pair_one (a b : Option Nat) : ∀ v ∈ [ptr a, ptr b], v.oneCell' = true := fun v hv => by
  simp only [List.mem_cons, List.not_mem_nil, or_false] at hv
  rcases hv with rfl | rfl <;> exact ptr_one _
theorem hash_eq (a b : List UInt8) (ha : a.length = 32) (hb : b.length = 32) (W : World) : (Op.equalIn 10000 30 (.agg (a.map cellOf).toArray) (.agg (b.map cellOf).toArray)).run Tryd.prog W = .ok (decide (a = b)) W := by
  rw [equal30 a b ha hb]
  by_cases h : a = b
  · subst h; rw [sameB_self]; simp
  · rw [show sameB a b = false by simp [sameB, h]]; simp [h]
theorem TrK.setCell {w : World} {r k : Nat} {t : TypeId} {cs : List Value} (v : Value) (hr : Blk w r t cs) (h1 : t ≠ 72) (h2 : t ≠ 75) : TrK w (w.setCell ⟨r, k, none⟩ v) := by
  have ne : ∀ g cs' t', Blk w g t' cs' → t ≠ t' → g ≠ r := fun g cs' t' hb ht e => by
    subst e
    unfold Blk at hb hr
    rw [hr] at hb
    injection hb with hb
    injection hb with _ hb _
    exact ht hb
  exact ⟨fun g cs' hb => (Below.heap_setCell w _ v g (ne g cs' _ hb h1)).trans hb, fun g cs' hb => (Below.heap_setCell w _ v g (ne g cs' _ hb h2)).trans hb⟩
theorem TrK.drew (w : World) : TrK w w.drew := ⟨fun _ _ hb => hb.drew, fun _ _ hb => hb.drew⟩
def WithC (f : Nat) : Prop := ∀ {w : World} (hg : Gl w) (n : Option Nat) (d : Nat) (l : List Tm.P) (p : Tm.P) (g q : Nat), f + d = 256 → Tm.Fit d l → Tr w n d l → Blk w g 72 (nodeL (Tm.leaf p.1 p.2) (some q) none none) → Blk w q 75 (leafL p) → p.1.length = 32 → p.2.length = 32 → (∀ r ∈ l, ∀ i, i < d → Tm.bit p.1 i = Tm.bit r.1 i) →
  Calls Tryd.prog 44 #[ptr n, .pointer (some ⟨g, 0, none⟩), .int .i64 (d : Int)] w fun e w' => ∃ m, e = .returned (.pointer (some ⟨m, 0, none⟩)) ∧ Tr w' (some m) d (Tm.put p l) ∧ Below w.heap.size w w'
set_option maxRecDepth 100000 in
set_option maxHeartbeats 1000000 in
theorem with_more {w : World} (hg : Gl w) {g0 dp : Nat} {a b : Option Nat} {l : List Tm.P} {p : Tm.P} {g q : Nat} (hf : Tm.Fit dp l) (h2 : 2 ≤ l.length) (hn : Blk w g0 72 (nodeL (Tm.root dp l) none a b)) (hta : Tr w a (dp + 1) (Tm.half false dp l)) (htb : Tr w b (dp + 1) (Tm.half true dp l)) (hg1 : Blk w g 72 (nodeL (Tm.leaf p.1 p.2) (some q) none none)) (hq1 : Blk w q 75 (leafL p)) (hp1 : p.1.length = 32) (hp2 : p.2.length = 32) (hw : ∀ r ∈ l, ∀ i, i < dp → Tm.bit p.1 i = Tm.bit r.1 i) (hd : dp < 256) (f : Nat) (hfd : f + (dp + 1) = 256) (ih : WithC f) :
    Calls Tryd.prog 44 #[.pointer (some ⟨g0, 0, none⟩), .pointer (some ⟨g, 0, none⟩), .int .i64 (dp : Int)] w fun e w' => ∃ m, e = .returned (.pointer (some ⟨m, 0, none⟩)) ∧ Tr w' (some m) dp (Tm.put p l) ∧ Below w.heap.size w w' := by
  have HRL := Tm.root_length dp l
  have BN := Lib.hid hn
  have IH : Hid (WithC f) := ih
  have HWY := Lib.hid hw
  have HF := Lib.hid hf
  have HTA := Lib.hid hta
  have HTB := Lib.hid htb
  have HG1 := Lib.hid hg1
  have HQ1 := Lib.hid hq1
  have HG := Lib.hid hg
  clear ih hw hf hta htb hg1 hq1 hg hn
  go_enter Tryd.func44, Tryd.ntmps44
  go_upto_region 1 with (fail)
  refine wp_region_any (by kernel_rfl) ?_
  replace BN := Lib.hid BN.out.drew
  have HW : Hid (Below w.heap.size w w.drew) := (Below.refl _ _).drew
  change wpAny _ _ _ _ _ _ _ (World.drew _)
  generalize w.drew = w1 at *
  have c32 : w1.cell? ⟨g0, 32, none⟩ = some (.pointer none) := by rw [BN.out.cell, (nodeL_ptrs HRL).1]; rfl
  refine wpAny_take (i := 0) (oi := ?oi1) (v := .pointer (some ⟨g0, 0, none⟩)) ?hi1 (by kernel_rfl) (by kernel_rfl) (by kernel_rfl) ?hQ1 ?hy1 ?rest1
  case hi1 => simp only [zge]; rfl
  case hQ1 => exact fun _ _ _ h => h
  case hy1 => exact Or.inl ⟨by rfl, by intro w; go_simp⟩
  try simp only [zpt]
  refine wpAny_take (i := 1) (oi := ?oi2) (v := .bool false) ?hi2 (by kernel_rfl) (by kernel_rfl) (by kernel_rfl) ?hQ2 ?hy2 ?rest2
  case hi2 => simp only [zge]; rfl
  case hQ2 => exact fun _ _ _ h => h
  case hy2 => exact Or.inl ⟨by rfl, by intro w; go_simp⟩
  try simp only [zpt]
  refine wpAny_take (i := 2) (oi := ?oi3) (v := .bool false) ?hi3 (by kernel_rfl) (by kernel_rfl) (by kernel_rfl) ?hQ3 ?hy3 ?rest3
  case hi3 => simp only [zge]; rfl
  case hQ3 => exact fun _ _ _ h => h
  case hy3 => exact Or.inl ⟨by rfl, by intro w; go_simp⟩
  try simp only [zpt]
  refine wpAny_take (i := 3) (oi := ?oi4) (v := .pointer (some ⟨g0, 0, none⟩)) ?hi4 (by kernel_rfl) (by kernel_rfl) (by kernel_rfl) ?hQ4 ?hy4 ?rest4
  case hi4 => simp only [zge]; rfl
  case hQ4 => exact fun _ _ _ h => h
  case hy4 => exact Or.inl ⟨by rfl, by intro w; go_simp⟩
  try simp only [zpt]
  refine wpAny_take (i := 4) (oi := ?oi5) (v := .pointer (some ⟨g0, 0, none⟩)) ?hi5 (by kernel_rfl) (by kernel_rfl) (by kernel_rfl) ?hQ5 ?hy5 ?rest5
  case hi5 => simp only [zge]; rfl
  case hQ5 => exact fun _ _ _ h => h
  case hy5 => exact Or.inl ⟨by rfl, by intro w; go_simp⟩
  try simp only [zpt]
  refine wpAny_take (i := 5) (oi := ?oi6) (v := .pointer (some ⟨g0, 32, none⟩)) ?hi6 (by kernel_rfl) (by kernel_rfl) (by kernel_rfl) ?hQ6 ?hy6 ?rest6
  case hi6 => simp only [zge]; rfl
  case hQ6 => exact fun _ _ _ h => h
  case hy6 => exact Or.inl ⟨by rfl, by intro w; go_simp⟩
  try simp only [zpt]
  refine wpAny_ready (rs := [6]) (by kernel_rfl) (by simp) ?_
  refine AllReady.cons (o := ?p7) ?q7 (fun K hK => ?_) AllReady.nil
  case q7 => simp only [zge]; rfl
  go_simp
  refine hK _ _ ?_
  clear hK K
  try simp only [zpt]
  refine wpAny_take (i := 7) (oi := ?oi8) (v := .bool false) ?hi8 (by kernel_rfl) (by kernel_rfl) (by kernel_rfl) ?hQ8 ?hy8 ?rest8
  case hi8 => simp only [zge]; rfl
  case hQ8 => exact fun _ _ _ h => h
  case hy8 => exact Or.inl ⟨by rfl, by intro w; go_simp⟩
  try simp only [zpt]
  refine wpAny_take (i := 8) (oi := ?oi9) (v := .bool false) ?hi9 (by kernel_rfl) (by kernel_rfl) (by kernel_rfl) ?hQ9 ?hy9 ?rest9
  case hi9 => simp only [zge]; rfl
  case hQ9 => exact fun _ _ _ h => h
  case hy9 => exact Or.inl ⟨by rfl, by intro w; go_simp⟩
  try simp only [zpt]
  refine wpAny_take (i := 9) (oi := ?oi10) (v := undef) ?hi10 (by kernel_rfl) (by kernel_rfl) (by kernel_rfl) ?hQ10 ?hy10 ?rest10
  case hi10 => simp only [zge]; rfl
  case hQ10 => exact fun _ _ _ h => h
  case hy10 => exact Or.inr ⟨by rfl, rfl⟩
  try simp only [zpt]
  refine wpAny_take (i := 10) (oi := ?oi11) (v := undef) ?hi11 (by kernel_rfl) (by kernel_rfl) (by kernel_rfl) ?hQ11 ?hy11 ?rest11
  case hi11 => simp only [zge]; rfl
  case hQ11 => exact fun _ _ _ h => h
  case hy11 => exact Or.inr ⟨by rfl, rfl⟩
  try simp only [zpt]
  refine wpAny_take (i := 11) (oi := ?oi12) (v := undef) ?hi12 (by kernel_rfl) (by kernel_rfl) (by kernel_rfl) ?hQ12 ?hy12 ?rest12
  case hi12 => simp only [zge]; rfl
  case hQ12 => exact fun _ _ _ h => h
  case hy12 => exact Or.inr ⟨by rfl, rfl⟩
  try simp only [zpt]
  refine wpAny_take (i := 12) (oi := ?oi13) (v := undef) ?hi13 (by kernel_rfl) (by kernel_rfl) (by kernel_rfl) ?hQ13 ?hy13 ?rest13
  case hi13 => simp only [zge]; rfl
  case hQ13 => exact fun _ _ _ h => h
  case hy13 => exact Or.inr ⟨by rfl, rfl⟩
  try simp only [zpt]
  refine wpAny_take (i := 13) (oi := ?oi14) (v := undef) ?hi14 (by kernel_rfl) (by kernel_rfl) (by kernel_rfl) ?hQ14 ?hy14 ?rest14
  case hi14 => simp only [zge]; rfl
  case hQ14 => exact fun _ _ _ h => h
  case hy14 => exact Or.inr ⟨by rfl, rfl⟩
  try simp only [zpt]
  refine wpAny_take (i := 14) (oi := ?oi15) (v := undef) ?hi15 (by kernel_rfl) (by kernel_rfl) (by kernel_rfl) ?hQ15 ?hy15 ?rest15
  case hi15 => simp only [zge]; rfl
  case hQ15 => exact fun _ _ _ h => h
  case hy15 => exact Or.inr ⟨by rfl, rfl⟩
  try simp only [zpt]
  refine wpAny_take (i := 15) (oi := ?oi16) (v := undef) ?hi16 (by kernel_rfl) (by kernel_rfl) (by kernel_rfl) ?hQ16 ?hy16 ?rest16
  case hi16 => simp only [zge]; rfl
  case hQ16 => exact fun _ _ _ h => h
  case hy16 => exact Or.inr ⟨by rfl, rfl⟩
  try simp only [zpt]
  refine wpAny_take (i := 16) (oi := ?oi17) (v := undef) ?hi17 (by kernel_rfl) (by kernel_rfl) (by kernel_rfl) ?hQ17 ?hy17 ?rest17
  case hi17 => simp only [zge]; rfl
  case hQ17 => exact fun _ _ _ h => h
  case hy17 => exact Or.inr ⟨by rfl, rfl⟩
  try simp only [zpt]
  refine wpAny_take (i := 17) (oi := ?oi18) (v := undef) ?hi18 (by kernel_rfl) (by kernel_rfl) (by kernel_rfl) ?hQ18 ?hy18 ?rest18
  case hi18 => simp only [zge]; rfl
  case hQ18 => exact fun _ _ _ h => h
  case hy18 => exact Or.inr ⟨by rfl, rfl⟩
  try simp only [zpt]
  refine wpAny_take (i := 18) (oi := ?oi19) (v := undef) ?hi19 (by kernel_rfl) (by kernel_rfl) (by kernel_rfl) ?hQ19 ?hy19 ?rest19
  case hi19 => simp only [zge]; rfl
  case hQ19 => exact fun _ _ _ h => h
  case hy19 => exact Or.inr ⟨by rfl, rfl⟩
  try simp only [zpt]
  refine wpAny_take (i := 19) (oi := ?oi20) (v := undef) ?hi20 (by kernel_rfl) (by kernel_rfl) (by kernel_rfl) ?hQ20 ?hy20 ?rest20
  case hi20 => simp only [zge]; rfl
  case hQ20 => exact fun _ _ _ h => h
  case hy20 => exact Or.inr ⟨by rfl, rfl⟩
  try simp only [zpt]
  refine wpAny_take (i := 20) (oi := ?oi21) (v := undef) ?hi21 (by kernel_rfl) (by kernel_rfl) (by kernel_rfl) ?hQ21 ?hy21 ?rest21
  case hi21 => simp only [zge]; rfl
  case hQ21 => exact fun _ _ _ h => h
  case hy21 => exact Or.inr ⟨by rfl, rfl⟩
  try simp only [zpt]
  refine wpAny_take (i := 21) (oi := ?oi22) (v := undef) ?hi22 (by kernel_rfl) (by kernel_rfl) (by kernel_rfl) ?hQ22 ?hy22 ?rest22
  case hi22 => simp only [zge]; rfl
  case hQ22 => exact fun _ _ _ h => h
  case hy22 => exact Or.inr ⟨by rfl, rfl⟩
  try simp only [zpt]
  refine wpAny_take (i := 22) (oi := ?oi23) (v := undef) ?hi23 (by kernel_rfl) (by kernel_rfl) (by kernel_rfl) ?hQ23 ?hy23 ?rest23
  case hi23 => simp only [zge]; rfl
  case hQ23 => exact fun _ _ _ h => h
  case hy23 => exact Or.inr ⟨by rfl, rfl⟩
  try simp only [zpt]
  refine wpAny_take (i := 23) (oi := ?oi24) (v := undef) ?hi24 (by kernel_rfl) (by kernel_rfl) (by kernel_rfl) ?hQ24 ?hy24 ?rest24
  case hi24 => simp only [zge]; rfl
  case hQ24 => exact fun _ _ _ h => h
  case hy24 => exact Or.inr ⟨by rfl, rfl⟩
  try simp only [zpt]
  refine wpAny_take (i := 24) (oi := ?oi25) (v := .bool false) ?hi25 (by kernel_rfl) (by kernel_rfl) (by kernel_rfl) ?hQ25 ?hy25 ?rest25
  case hi25 => simp only [zge]; rfl
  case hQ25 => exact fun _ _ _ h => h
  case hy25 => exact Or.inl ⟨by rfl, by intro w; go_simp⟩
  try simp only [zpt]
  refine wpAny_take (i := 25) (oi := ?oi26) (v := .bool false) ?hi26 (by kernel_rfl) (by kernel_rfl) (by kernel_rfl) ?hQ26 ?hy26 ?rest26
  case hi26 => simp only [zge]; rfl
  case hQ26 => exact fun _ _ _ h => h
  case hy26 => exact Or.inl ⟨by rfl, by intro w; go_simp⟩
  try simp only [zpt]
  refine wpAny_done (by kernel_rfl) ?_ _
  clear c32
  have NS := Lib.hid (node_sides BN.out HRL)
  have PI := Lib.hid (pair_info a b)
  have PO := Lib.hid (pair_one a b)
  have PN : Hid ([Value.pointer none, Value.pointer none].length = [ptr a, ptr b].length) := rfl
  obtain ⟨S2, hS2⟩ : ∃ S, S = [ptr a, ptr b] := ⟨_, rfl⟩
  rw [← hS2] at NS PI PO PN
  have HS2 := Lib.hid hS2
  clear hS2
  have hn1 := Nat.le_refl w1.heap.size
  go_upto_region 4 with (first
    | (with_reducible refine load_law rfl 70 (.tmp 38) rfl g0 33 rfl S2 _ Tryd.underlying70 rfl PI.out NS.out ?_)
    | ((with_reducible refine storeGen_law rfl 70 (.tmp 7) (.tmp 39) rfl w1.heap.size rfl S2 rfl 70 [.pointer none, .pointer none] PI.out PN.out PO.out w1.heap.size w1 ?_ ?_ hn1 ?_)
       · exact Blk.new w1 70 [.pointer none, .pointer none]
       · exact alloc_below w1 _
       intro w3 B3 X3))
  have h13 := X3.out.size
  have h1s := HW.out.size
  have W3 := Lib.hid (HW.out.trans (X3.out.mono h1s))
  have BN3 : Hid (Blk w3 g0 72 (nodeL (Tm.root dp l) none a b)) := BN.out.below X3.out BN.out.lt
  have c32 : w3.cell? ⟨g0, 32, none⟩ = some (.pointer none) := by rw [BN3.out.cell, (nodeL_ptrs HRL).1]; rfl
  clear NS BN BN3 PN X3
  have G3 := Lib.hid (HG1.out.below W3.out HG1.out.lt)
  have Q3 := Lib.hid (HQ1.out.below W3.out HQ1.out.lt)
  have c3g : w3.cell? ⟨g, 32, none⟩ = some (.pointer (some ⟨q, 0, none⟩)) := by rw [G3.out.cell, (nodeL_ptrs (Tm.leaf_length _ _)).1]; rfl
  have QL := Lib.hid (leaf_label Q3.out hp1)
  have HI := Lib.hid (hash_info hp1)
  have CB : Hid (∀ W, Calls Tryd.prog 41 #[hv p.1, .int .i64 (dp : Int)] W fun e w' => e = .returned (.int .i64 (bitI p.1 dp)) ∧ Below W.heap.size W w') := fun W => bit_any hp1 hd W
  unfold hv at CB
  obtain ⟨L1, hL1⟩ : ∃ L, L = p.1.map cellOf := ⟨_, rfl⟩
  rw [← hL1] at QL HI CB
  clear hL1
  obtain ⟨k, x, hk, hk2, hkx, htx, hkb⟩ : ∃ (k : Nat) (x : Option Nat), bitI p.1 dp = (k : Int) ∧ k < 2 ∧ S2[k]? = some (ptr x) ∧ Tr w x (dp + 1) (Tm.half (Tm.bit p.1 dp) dp l) ∧ k = (if Tm.bit p.1 dp then 1 else 0) := by
    rw [HS2.out]
    unfold bitI
    cases Tm.bit p.1 dp
    · exact ⟨0, a, rfl, by omega, rfl, HTA.out, rfl⟩
    · exact ⟨1, b, rfl, by omega, rfl, HTB.out, rfl⟩
  rw [hk] at CB
  clear hk
  have HKX := Lib.hid hkx
  have HKB := Lib.hid hkb
  have HTX := Lib.hid htx
  clear hkx hkb htx
  go_upto_region 7 with (first
    | (with_reducible refine load_law rfl 30 (.tmp 61) rfl q 0 rfl L1 _ Tryd.underlying30 rfl HI.out QL.out ?_)
    | (refine (CB.out w3).mono ?_; rintro e w4 ⟨rfl, hX4⟩))
  have X4 := Lib.hid hX4
  have B4 := Lib.hid (B3.out.below X4.out B3.out.lt)
  have W4 := Lib.hid (W3.out.trans (X4.out.mono W3.out.size))
  have c4 : w4.cell? ⟨w1.heap.size, k, none⟩ = some (ptr x) := by rw [B4.out.cell]; exact HKX.out
  clear hX4 X4 c3g c32 B3 W3
  have hs4 := B4.out.lt
  have h4s := W4.out.size
  have CI : Hid (Calls Tryd.prog 44 #[ptr x, .pointer (some ⟨g, 0, none⟩), .int .i64 ((dp : Int) + 1)] w4 fun e w' => ∃ m, e = .returned (.pointer (some ⟨m, 0, none⟩)) ∧ Tr w' (some m) (dp + 1) (Tm.put p (Tm.half (Tm.bit p.1 dp) dp l)) ∧ Below w4.heap.size w4 w') :=
    IH.out (HG.out.below W4.out HG.out.size) x (dp + 1) _ p g q hfd (HF.out.half _) (HTX.out.low W4.out) (HG1.out.below W4.out HG1.out.lt) (HQ1.out.below W4.out HQ1.out.lt) hp1 hp2 fun r hr i hi => by
      rcases Nat.lt_or_ge i dp with h | h
      · exact HWY.out r (Tm.mem_half.1 hr).1 i h
      · rw [show i = dp by omega, (Tm.mem_half.1 hr).2]
  go_upto_region 8 with (first
    | (go_at_call 44; refine CI.out.mono ?_; rintro e w5 ⟨m, rfl, hT5, hX5⟩; have HT5 := Lib.hid hT5; have HX5 := Lib.hid hX5; clear hT5; have c5 : w5.cell? ⟨w1.heap.size, k, none⟩ = some (ptr x) := (by rw [(B4.out.below hX5 hs4).cell]; exact HKX.out); have f5 : w5.frozen? ⟨w1.heap.size, k, none⟩ = false := (B4.out.below hX5 hs4).frozen k; clear hX5))
  have L2 : 2 ≤ (Tm.put p l).length := Nat.le_trans h2 (Tm.put_le p l).1
  have h45 := HX5.out.size
  have B5 := Lib.hid (B4.out.below HX5.out hs4)
  have W5 := Lib.hid (W4.out.trans (HX5.out.mono h4s))
  have KT : TrK w5 (w5.setCell ⟨w1.heap.size, k, none⟩ (ptr (some m))).drew := (TrK.setCell _ B5.out (by decide) (by decide)).trans (TrK.drew _)
  obtain ⟨a', b', ha', hTa, hTb⟩ : ∃ a' b', S2.set k (ptr (some m)) = [ptr a', ptr b'] ∧ Tr (w5.setCell ⟨w1.heap.size, k, none⟩ (ptr (some m))).drew a' (dp + 1) (Tm.half false dp (Tm.put p l)) ∧ Tr (w5.setCell ⟨w1.heap.size, k, none⟩ (ptr (some m))).drew b' (dp + 1) (Tm.half true dp (Tm.put p l)) := by
    rw [HS2.out, Tm.half_put, Tm.half_put]
    have hT := HT5.out.keep KT
    have ha := (HTA.out.low W5.out).keep KT
    have hb := (HTB.out.low W5.out).keep KT
    have hkk := HKB.out
    cases hbit : Tm.bit p.1 dp
    · rw [hbit] at hT hkk; exact ⟨some m, b, by rw [hkk]; rfl, hT, hb⟩
    · rw [hbit] at hT hkk; exact ⟨a, some m, by rw [hkk]; rfl, ha, hT⟩
  have TA := Lib.hid hTa
  have TB := Lib.hid hTb
  have B6 : Hid (Blk (w5.setCell ⟨w1.heap.size, k, none⟩ (ptr (some m))).drew w1.heap.size 70 [ptr a', ptr b']) := by
    have := (B5.out.set_ k (ptr (some m))).drew
    rw [ha'] at this
    exact this
  have W6 : Hid (Below w.heap.size w (w5.setCell ⟨w1.heap.size, k, none⟩ (ptr (some m))).drew) := (W5.out.setCell h1s _).drew
  refine wp_region_any (by kernel_rfl) ?_
  change wpAny _ _ _ _ _ _ _ (World.drew (w5.setCell ⟨w1.heap.size, k, none⟩ (ptr (some m))))
  generalize (w5.setCell ⟨w1.heap.size, k, none⟩ (ptr (some m))).drew = w6 at *
  obtain ⟨ra, hra⟩ : ∃ r, r = Tm.root (dp + 1) (Tm.half false dp (Tm.put p l)) := ⟨_, rfl⟩
  obtain ⟨rb, hrb⟩ : ∃ r, r = Tm.root (dp + 1) (Tm.half true dp (Tm.put p l)) := ⟨_, rfl⟩
  have hla : ra.length = 32 := by rw [hra]; exact Tm.root_length _ _
  have hlb : rb.length = 32 := by rw [hrb]; exact Tm.root_length _ _
  have HRT : Tm.root dp (Tm.put p l) = Tm.node ra rb := by rw [hra, hrb]; exact Tm.root_more L2 (by omega)
  have CA : Hid (∀ W, Below w6.heap.size w6 W → Calls Tryd.prog 38 #[ptr a'] W fun e w' => e = .returned (hv ra) ∧ Below W.heap.size W w') := fun W hW => by rw [hra]; exact sumAll_of (TA.out.low hW)
  have CBB : Hid (∀ W, Below w6.heap.size w6 W → Calls Tryd.prog 38 #[ptr b'] W fun e w' => e = .returned (hv rb) ∧ Below W.heap.size W w') := fun W hW => by rw [hrb]; exact sumAll_of (TB.out.low hW)
  have CN : Hid (∀ W, Below w6.heap.size w6 W → Calls Tryd.prog 35 #[hv ra, hv rb] W fun e w' => e = .returned (.agg ((Tm.root dp (Tm.put p l)).map cellOf).toArray) ∧ Below W.heap.size W w') := fun W hW => by
    rw [HRT]
    exact tnode_any (HG.out.below (W6.out.trans (hW.mono W6.out.size)) HG.out.size) hla hlb
  have BN2 : Hid (Tryd.prog.built 72 [(0, .agg ((Tm.root dp (Tm.put p l)).map cellOf).toArray), (2, .agg [ptr a', ptr b'].toArray)] = some ((Tm.root dp (Tm.put p l)).map cellOf ++ [ptr none, ptr a', ptr b']).toArray) := builtNode2 (by rw [List.length_map]; exact Tm.root_length _ _) (adr a') (adr b')
  have HNL : Hid ((Tm.root dp (Tm.put p l)).map cellOf ++ [ptr none, ptr a', ptr b'] = nodeL (Tm.root dp (Tm.put p l)) none a' b') := rfl
  obtain ⟨NL, hNL⟩ : ∃ NL, NL = (Tm.root dp (Tm.put p l)).map cellOf ++ [ptr none, ptr a', ptr b'] := ⟨_, rfl⟩
  obtain ⟨D, hD⟩ : ∃ D, D = (Tm.root dp (Tm.put p l)).map cellOf := ⟨_, rfl⟩
  rw [← hNL] at HNL BN2
  rw [← hD] at CN BN2
  have PI2 := Lib.hid (pair_info a' b')
  clear hTa hTb ha' KT HRT hra hrb hla hlb hNL hD c4 c5 f5 HTX HKX HKB HTA HTB B4 B5 W4 W5 HT5 HX5 CI CB IH HWY HF PI PO HS2 h45 hs4 h4s
  refine wpAny_take (i := 0) (oi := ?oi27) (v := .pointer (some ⟨w1.heap.size, 0, none⟩)) ?hi27 (by kernel_rfl) (by kernel_rfl) (by kernel_rfl) ?hQ27 ?hy27 ?rest27
  case hi27 => simp only [zge]; rfl
  case hQ27 => exact fun _ _ _ h => h
  case hy27 => exact Or.inl ⟨by rfl, by intro w; go_simp⟩
  try simp only [zpt]
  refine wpAny_take (i := 3) (oi := ?oi28) (v := .pointer (some ⟨w1.heap.size, 1, none⟩)) ?hi28 (by kernel_rfl) (by kernel_rfl) (by kernel_rfl) ?hQ28 ?hy28 ?rest28
  case hi28 => simp only [zge]; rfl
  case hQ28 => exact fun _ _ _ h => h
  case hy28 => exact Or.inl ⟨by rfl, by intro w; go_simp⟩
  try simp only [zpt]
  refine phaseL (fun i => if i = 2 then [1] else if i = 5 then [4, 2] else if i = 6 then [2, 5] else []) (fun d a w' => ∃ x75 x76 x78 x79 x80 x81 : Value, a = { tmps := #[.pointer (some ⟨g0, 0, none⟩), .pointer (some ⟨g, 0, none⟩), .int .i64 (dp : Int), undef, undef, undef, .pointer none, .pointer (some ⟨w1.heap.size, 0, none⟩), .int .i64 (k : Int), .pointer (some ⟨g0, 0, none⟩), .bool false, .bool false, .pointer (some ⟨g0, 0, none⟩), .pointer (some ⟨g0, 0, none⟩), .pointer (some ⟨g0, 32, none⟩), .pointer none, .bool false, .bool false, undef, undef, undef, undef, undef, undef, undef, undef, undef, undef, undef, undef, undef, undef, undef, .bool false, .bool false, undef, .pointer (some ⟨g0, 0, none⟩), .pointer (some ⟨g0, 0, none⟩), .pointer (some ⟨g0, 33, none⟩), .agg S2.toArray, .pointer (some ⟨g0, 0, none⟩), .pointer (some ⟨g0, 0, none⟩), .pointer (some ⟨g0, 32, none⟩), .pointer none, .bool false, undef, undef, undef, undef, undef, undef, undef, undef, undef, undef, undef, .pointer (some ⟨g, 0, none⟩), .pointer (some ⟨g, 0, none⟩), .pointer (some ⟨g, 32, none⟩), .pointer (some ⟨q, 0, none⟩), .pointer (some ⟨q, 0, none⟩), .pointer (some ⟨q, 0, none⟩), .agg L1.toArray, .int .i64 (dp : Int), .int .i64 (k : Int), .int .i64 (k : Int), .int .i64 (k : Int), .pointer (some ⟨w1.heap.size, k, none⟩), ptr x, .pointer (some ⟨g, 0, none⟩), .int .i64 (dp : Int), .int .i64 ((dp : Int) + 1), ptr (some m), .pointer (some ⟨w1.heap.size, k, none⟩), .pointer (some ⟨w1.heap.size, 0, none⟩), x75, x76, .pointer (some ⟨w1.heap.size, 1, none⟩), x78, x79, x80, x81, undef, undef], defers := [] } ∧ Hid (Below w6.heap.size w6 w') ∧ (d 1 = true → x75 = ptr a') ∧ (d 2 = true → x76 = hv ra) ∧ (d 4 = true → x78 = ptr b') ∧ (d 5 = true → x79 = hv rb) ∧ (d 6 = true → x80 = .agg D.toArray) ∧ (d 7 = true → x81 = .agg [ptr a', ptr b'].toArray)) [1, 2, 4, 5, 6, 7] ?step29 3 6 [1, 2, 4, 5, 6, 7] _ _ _ rfl (by decide) (fun _ h => h) (Fits.of (by kernel_rfl)) ?init29 ?fin29
  case init29 => refine ⟨_, _, _, _, _, _, rfl, Below.refl _ _, ?_, ?_, ?_, ?_, ?_, ?_⟩ <;> (intro h; exact absurd h (by decide))
  case step29 =>
    intro i hi d a v29 hI hdi hdeps
    obtain ⟨x75, x76, x78, x79, x80, x81, rfl, BW, h1, h2, h4, h5, h6, h7⟩ := hI
    have hsw := BW.out.size
    simp only [List.mem_cons, List.not_mem_nil, or_false] at hi
    rcases hi with rfl | rfl | rfl | rfl | rfl | rfl
    · have c0 : v29.cell? ⟨w1.heap.size, 0, none⟩ = some (ptr a') := (B6.out.below BW.out B6.out.lt).cell 0
      refine wpOp_step (o := ?os30) ?hos30 (fun K hK => ?_)
      case hos30 => simp only [zge]; rfl
      go_simp
      refine hK _ _ ?_
      clear hK K
      try simp only [zpt]
      exact ⟨_, _, _, _, _, _, rfl, BW, fun _ => rfl, fun a => by first | exact h2 (by simpa using a) | rfl, fun a => by first | exact h4 (by simpa using a) | rfl, fun a => by first | exact h5 (by simpa using a) | rfl, fun a => by first | exact h6 (by simpa using a) | rfl, fun a => by first | exact h7 (by simpa using a) | rfl⟩
    · obtain rfl := h1 (hdeps 1 (by simp))
      refine wpOp_step (o := ?os31) ?hos31 (fun K hK => ?_)
      case hos31 => simp only [zge]; rfl
      go_simp
      refine (CA.out v29 BW.out).mono ?_
      rintro e u29 ⟨rfl, hX⟩
      refine hK _ _ ?_
      clear hK K
      try simp only [zpt]
      exact ⟨_, _, _, _, _, _, rfl, BW.out.trans (hX.mono hsw), fun a => by first | exact h1 (by simpa using a) | rfl, fun _ => rfl, fun a => by first | exact h4 (by simpa using a) | rfl, fun a => by first | exact h5 (by simpa using a) | rfl, fun a => by first | exact h6 (by simpa using a) | rfl, fun a => by first | exact h7 (by simpa using a) | rfl⟩
    · have c0 : v29.cell? ⟨w1.heap.size, 1, none⟩ = some (ptr b') := (B6.out.below BW.out B6.out.lt).cell 1
      refine wpOp_step (o := ?os32) ?hos32 (fun K hK => ?_)
      case hos32 => simp only [zge]; rfl
      go_simp
      refine hK _ _ ?_
      clear hK K
      try simp only [zpt]
      exact ⟨_, _, _, _, _, _, rfl, BW, fun a => by first | exact h1 (by simpa using a) | rfl, fun a => by first | exact h2 (by simpa using a) | rfl, fun _ => rfl, fun a => by first | exact h5 (by simpa using a) | rfl, fun a => by first | exact h6 (by simpa using a) | rfl, fun a => by first | exact h7 (by simpa using a) | rfl⟩
    · obtain rfl := h4 (hdeps 4 (by simp))
      refine wpOp_step (o := ?os33) ?hos33 (fun K hK => ?_)
      case hos33 => simp only [zge]; rfl
      go_simp
      refine (CBB.out v29 BW.out).mono ?_
      rintro e u29 ⟨rfl, hX⟩
      refine hK _ _ ?_
      clear hK K
      try simp only [zpt]
      exact ⟨_, _, _, _, _, _, rfl, BW.out.trans (hX.mono hsw), fun a => by first | exact h1 (by simpa using a) | rfl, fun a => by first | exact h2 (by simpa using a) | rfl, fun a => by first | exact h4 (by simpa using a) | rfl, fun _ => rfl, fun a => by first | exact h6 (by simpa using a) | rfl, fun a => by first | exact h7 (by simpa using a) | rfl⟩
    · obtain rfl := h2 (hdeps 2 (by simp))
      obtain rfl := h5 (hdeps 5 (by simp))
      refine wpOp_step (o := ?os34) ?hos34 (fun K hK => ?_)
      case hos34 => simp only [zge]; rfl
      go_simp
      refine (CN.out v29 BW.out).mono ?_
      rintro e u29 ⟨rfl, hX⟩
      refine hK _ _ ?_
      clear hK K
      try simp only [zpt]
      exact ⟨_, _, _, _, _, _, rfl, BW.out.trans (hX.mono hsw), fun a => by first | exact h1 (by simpa using a) | rfl, fun a => by first | exact h2 (by simpa using a) | rfl, fun a => by first | exact h4 (by simpa using a) | rfl, fun a => by first | exact h5 (by simpa using a) | rfl, fun _ => rfl, fun a => by first | exact h7 (by simpa using a) | rfl⟩
    · refine wpOp_step (o := ?os35) ?hos35 (fun K hK => ?_)
      case hos35 => simp only [zge]; rfl
      refine step_loadW rfl 70 (.tmp 7) rfl w1.heap.size 0 rfl [ptr a', ptr b'] _ Tryd.underlying70 rfl PI2.out (B6.out.below BW.out B6.out.lt).cells (hK _ _ ?_)
      clear hK K
      try simp only [zpt]
      exact ⟨_, _, _, _, _, _, rfl, BW, fun a => by first | exact h1 (by simpa using a) | rfl, fun a => by first | exact h2 (by simpa using a) | rfl, fun a => by first | exact h4 (by simpa using a) | rfl, fun a => by first | exact h5 (by simpa using a) | rfl, fun a => by first | exact h6 (by simpa using a) | rfl, fun _ => rfl⟩
  case fin29 =>
    intro a v29 hI
    obtain ⟨x75, x76, x78, x79, x80, x81, rfl, BW, h1, h2, h4, h5, h6, h7⟩ := hI
    obtain rfl := h1 (by decide)
    obtain rfl := h2 (by decide)
    obtain rfl := h4 (by decide)
    obtain rfl := h5 (by decide)
    obtain rfl := h6 (by decide)
    obtain rfl := h7 (by decide)
    have W7 := Lib.hid (W6.out.trans (BW.out.mono W6.out.size))
    have TA7 := Lib.hid (TA.out.low BW.out)
    have TB7 := Lib.hid (TB.out.low BW.out)
    have X8 := Lib.hid (alloc_below v29 (.cells NL.toArray 72))
    have B8 := Lib.hid (Blk.new v29 72 NL)
    clear BW TA TB W6 B6 CA CBB CN
    try dsimp only
    refine wpAny_ready (rs := [8]) (by kernel_rfl) (by simp) ?_
    refine AllReady.cons (o := ?p36) ?q36 (fun K hK => ?_) AllReady.nil
    case q36 => simp only [zge]; rfl
    refine step_build rfl 72 #[(0, .tmp 80), (2, .tmp 81)] rfl NL (by simp only [List.map_toArray, List.map_cons, List.map_nil]; exact BN2.out) (hK _ _ ?_)
    clear hK K
    try simp only [zpt]
    refine wpAny_ready (rs := [9]) (by kernel_rfl) (by simp) ?_
    refine AllReady.cons (o := ?p37) ?q37 (fun K hK => ?_) AllReady.nil
    case q37 => simp only [zge]; rfl
    go_simp
    refine hK _ _ ?_
    clear hK K
    try simp only [zpt]
    generalize v29.alloc (.cells NL.toArray 72) = w8 at *
    have W8 := Lib.hid (W7.out.trans (X8.out.mono W7.out.size))
    have TA8 := Lib.hid (TA7.out.low X8.out)
    have TB8 := Lib.hid (TB7.out.low X8.out)
    refine wpAny_take (i := 10) (oi := ?oi38) (v := .pointer (some ⟨v29.heap.size, 0, none⟩)) ?hi38 (by kernel_rfl) (by kernel_rfl) (by kernel_rfl) ?hQ38 ?hy38 ?rest38
    case hi38 => simp only [zge]; rfl
    case hQ38 => exact fun _ _ _ h => h
    case hy38 => exact Or.inl ⟨by rfl, by intro w; go_simp⟩
    try simp only [zpt]
    refine wpAny_done (by kernel_rfl) ?_ _
    go_wp2_with fail
    go_ret
    refine ⟨_, rfl, .more L2 ?_ TA8.out TB8.out, W8.out⟩
    have := B8.out
    rw [HNL.out] at this
    exact this
set_option maxRecDepth 100000 in
set_option maxHeartbeats 1000000 in
theorem with_none {w : World} (g : Nat) (dp : Int) : Calls Tryd.prog 44 #[.pointer none, .pointer (some ⟨g, 0, none⟩), .int .i64 dp] w fun e w' => e = .returned (.pointer (some ⟨g, 0, none⟩)) ∧ Below w.heap.size w w' := by
  go_enter Tryd.func44, Tryd.ntmps44
  go_upto_region 1 with (fail)
  refine wp_region_any (by kernel_rfl) ?_
  have HW : Hid (Below w.heap.size w w.drew) := (Below.refl _ _).drew
  change wpAny _ _ _ _ _ _ _ (World.drew _)
  generalize w.drew = w1 at *
  refine wpAny_take (i := 0) (oi := ?oi39) (v := .pointer none) ?hi39 (by kernel_rfl) (by kernel_rfl) (by kernel_rfl) ?hQ39 ?hy39 ?rest39
  case hi39 => simp only [zge]; rfl
  case hQ39 => exact fun _ _ _ h => h
  case hy39 => exact Or.inl ⟨by rfl, by intro w; go_simp⟩
  try simp only [zpt]
  refine wpAny_take (i := 1) (oi := ?oi40) (v := .bool true) ?hi40 (by kernel_rfl) (by kernel_rfl) (by kernel_rfl) ?hQ40 ?hy40 ?rest40
  case hi40 => simp only [zge]; rfl
  case hQ40 => exact fun _ _ _ h => h
  case hy40 => exact Or.inl ⟨by rfl, by intro w; go_simp⟩
  try simp only [zpt]
  refine wpAny_take (i := 2) (oi := ?oi41) (v := .bool true) ?hi41 (by kernel_rfl) (by kernel_rfl) (by kernel_rfl) ?hQ41 ?hy41 ?rest41
  case hi41 => simp only [zge]; rfl
  case hQ41 => exact fun _ _ _ h => h
  case hy41 => exact Or.inl ⟨by rfl, by intro w; go_simp⟩
  try simp only [zpt]
  refine wpAny_take (i := 3) (oi := ?oi42) (v := undef) ?hi42 (by kernel_rfl) (by kernel_rfl) (by kernel_rfl) ?hQ42 ?hy42 ?rest42
  case hi42 => simp only [zge]; rfl
  case hQ42 => exact fun _ _ _ h => h
  case hy42 => exact Or.inr ⟨by rfl, rfl⟩
  try simp only [zpt]
  refine wpAny_take (i := 4) (oi := ?oi43) (v := undef) ?hi43 (by kernel_rfl) (by kernel_rfl) (by kernel_rfl) ?hQ43 ?hy43 ?rest43
  case hi43 => simp only [zge]; rfl
  case hQ43 => exact fun _ _ _ h => h
  case hy43 => exact Or.inr ⟨by rfl, rfl⟩
  try simp only [zpt]
  refine wpAny_take (i := 5) (oi := ?oi44) (v := undef) ?hi44 (by kernel_rfl) (by kernel_rfl) (by kernel_rfl) ?hQ44 ?hy44 ?rest44
  case hi44 => simp only [zge]; rfl
  case hQ44 => exact fun _ _ _ h => h
  case hy44 => exact Or.inr ⟨by rfl, rfl⟩
  try simp only [zpt]
  refine wpAny_take (i := 6) (oi := ?oi45) (v := undef) ?hi45 (by kernel_rfl) (by kernel_rfl) (by kernel_rfl) ?hQ45 ?hy45 ?rest45
  case hi45 => simp only [zge]; rfl
  case hQ45 => exact fun _ _ _ h => h
  case hy45 => exact Or.inr ⟨by rfl, rfl⟩
  try simp only [zpt]
  refine wpAny_take (i := 7) (oi := ?oi46) (v := undef) ?hi46 (by kernel_rfl) (by kernel_rfl) (by kernel_rfl) ?hQ46 ?hy46 ?rest46
  case hi46 => simp only [zge]; rfl
  case hQ46 => exact fun _ _ _ h => h
  case hy46 => exact Or.inr ⟨by rfl, rfl⟩
  try simp only [zpt]
  refine wpAny_take (i := 8) (oi := ?oi47) (v := undef) ?hi47 (by kernel_rfl) (by kernel_rfl) (by kernel_rfl) ?hQ47 ?hy47 ?rest47
  case hi47 => simp only [zge]; rfl
  case hQ47 => exact fun _ _ _ h => h
  case hy47 => exact Or.inr ⟨by rfl, rfl⟩
  try simp only [zpt]
  refine wpAny_take (i := 9) (oi := ?oi48) (v := undef) ?hi48 (by kernel_rfl) (by kernel_rfl) (by kernel_rfl) ?hQ48 ?hy48 ?rest48
  case hi48 => simp only [zge]; rfl
  case hQ48 => exact fun _ _ _ h => h
  case hy48 => exact Or.inr ⟨by rfl, rfl⟩
  try simp only [zpt]
  refine wpAny_take (i := 10) (oi := ?oi49) (v := undef) ?hi49 (by kernel_rfl) (by kernel_rfl) (by kernel_rfl) ?hQ49 ?hy49 ?rest49
  case hi49 => simp only [zge]; rfl
  case hQ49 => exact fun _ _ _ h => h
  case hy49 => exact Or.inr ⟨by rfl, rfl⟩
  try simp only [zpt]
  refine wpAny_take (i := 11) (oi := ?oi50) (v := undef) ?hi50 (by kernel_rfl) (by kernel_rfl) (by kernel_rfl) ?hQ50 ?hy50 ?rest50
  case hi50 => simp only [zge]; rfl
  case hQ50 => exact fun _ _ _ h => h
  case hy50 => exact Or.inr ⟨by rfl, rfl⟩
  try simp only [zpt]
  refine wpAny_take (i := 12) (oi := ?oi51) (v := undef) ?hi51 (by kernel_rfl) (by kernel_rfl) (by kernel_rfl) ?hQ51 ?hy51 ?rest51
  case hi51 => simp only [zge]; rfl
  case hQ51 => exact fun _ _ _ h => h
  case hy51 => exact Or.inr ⟨by rfl, rfl⟩
  try simp only [zpt]
  refine wpAny_take (i := 13) (oi := ?oi52) (v := undef) ?hi52 (by kernel_rfl) (by kernel_rfl) (by kernel_rfl) ?hQ52 ?hy52 ?rest52
  case hi52 => simp only [zge]; rfl
  case hQ52 => exact fun _ _ _ h => h
  case hy52 => exact Or.inr ⟨by rfl, rfl⟩
  try simp only [zpt]
  refine wpAny_take (i := 14) (oi := ?oi53) (v := undef) ?hi53 (by kernel_rfl) (by kernel_rfl) (by kernel_rfl) ?hQ53 ?hy53 ?rest53
  case hi53 => simp only [zge]; rfl
  case hQ53 => exact fun _ _ _ h => h
  case hy53 => exact Or.inr ⟨by rfl, rfl⟩
  try simp only [zpt]
  refine wpAny_take (i := 15) (oi := ?oi54) (v := undef) ?hi54 (by kernel_rfl) (by kernel_rfl) (by kernel_rfl) ?hQ54 ?hy54 ?rest54
  case hi54 => simp only [zge]; rfl
  case hQ54 => exact fun _ _ _ h => h
  case hy54 => exact Or.inr ⟨by rfl, rfl⟩
  try simp only [zpt]
  refine wpAny_take (i := 16) (oi := ?oi55) (v := undef) ?hi55 (by kernel_rfl) (by kernel_rfl) (by kernel_rfl) ?hQ55 ?hy55 ?rest55
  case hi55 => simp only [zge]; rfl
  case hQ55 => exact fun _ _ _ h => h
  case hy55 => exact Or.inr ⟨by rfl, rfl⟩
  try simp only [zpt]
  refine wpAny_take (i := 17) (oi := ?oi56) (v := undef) ?hi56 (by kernel_rfl) (by kernel_rfl) (by kernel_rfl) ?hQ56 ?hy56 ?rest56
  case hi56 => simp only [zge]; rfl
  case hQ56 => exact fun _ _ _ h => h
  case hy56 => exact Or.inr ⟨by rfl, rfl⟩
  try simp only [zpt]
  refine wpAny_take (i := 18) (oi := ?oi57) (v := undef) ?hi57 (by kernel_rfl) (by kernel_rfl) (by kernel_rfl) ?hQ57 ?hy57 ?rest57
  case hi57 => simp only [zge]; rfl
  case hQ57 => exact fun _ _ _ h => h
  case hy57 => exact Or.inr ⟨by rfl, rfl⟩
  try simp only [zpt]
  refine wpAny_take (i := 19) (oi := ?oi58) (v := undef) ?hi58 (by kernel_rfl) (by kernel_rfl) (by kernel_rfl) ?hQ58 ?hy58 ?rest58
  case hi58 => simp only [zge]; rfl
  case hQ58 => exact fun _ _ _ h => h
  case hy58 => exact Or.inr ⟨by rfl, rfl⟩
  try simp only [zpt]
  refine wpAny_take (i := 20) (oi := ?oi59) (v := undef) ?hi59 (by kernel_rfl) (by kernel_rfl) (by kernel_rfl) ?hQ59 ?hy59 ?rest59
  case hi59 => simp only [zge]; rfl
  case hQ59 => exact fun _ _ _ h => h
  case hy59 => exact Or.inr ⟨by rfl, rfl⟩
  try simp only [zpt]
  refine wpAny_take (i := 21) (oi := ?oi60) (v := undef) ?hi60 (by kernel_rfl) (by kernel_rfl) (by kernel_rfl) ?hQ60 ?hy60 ?rest60
  case hi60 => simp only [zge]; rfl
  case hQ60 => exact fun _ _ _ h => h
  case hy60 => exact Or.inr ⟨by rfl, rfl⟩
  try simp only [zpt]
  refine wpAny_take (i := 22) (oi := ?oi61) (v := undef) ?hi61 (by kernel_rfl) (by kernel_rfl) (by kernel_rfl) ?hQ61 ?hy61 ?rest61
  case hi61 => simp only [zge]; rfl
  case hQ61 => exact fun _ _ _ h => h
  case hy61 => exact Or.inr ⟨by rfl, rfl⟩
  try simp only [zpt]
  refine wpAny_take (i := 23) (oi := ?oi62) (v := undef) ?hi62 (by kernel_rfl) (by kernel_rfl) (by kernel_rfl) ?hQ62 ?hy62 ?rest62
  case hi62 => simp only [zge]; rfl
  case hQ62 => exact fun _ _ _ h => h
  case hy62 => exact Or.inr ⟨by rfl, rfl⟩
  try simp only [zpt]
  refine wpAny_take (i := 24) (oi := ?oi63) (v := undef) ?hi63 (by kernel_rfl) (by kernel_rfl) (by kernel_rfl) ?hQ63 ?hy63 ?rest63
  case hi63 => simp only [zge]; rfl
  case hQ63 => exact fun _ _ _ h => h
  case hy63 => exact Or.inr ⟨by rfl, rfl⟩
  try simp only [zpt]
  refine wpAny_take (i := 25) (oi := ?oi64) (v := .bool true) ?hi64 (by kernel_rfl) (by kernel_rfl) (by kernel_rfl) ?hQ64 ?hy64 ?rest64
  case hi64 => simp only [zge]; rfl
  case hQ64 => exact fun _ _ _ h => h
  case hy64 => exact Or.inl ⟨by rfl, by intro w; go_simp⟩
  try simp only [zpt]
  refine wpAny_done (by kernel_rfl) ?_ _
  go_wp2_with fail
  go_ret
  exact ⟨rfl, HW.out⟩
set_option maxRecDepth 100000 in
set_option maxHeartbeats 2000000 in
theorem with_same {w : World} {g0 q0 dp : Nat} {r p : Tm.P} {g q : Nat} (hn : Blk w g0 72 (nodeL (Tm.leaf r.1 r.2) (some q0) none none)) (hq0 : Blk w q0 75 (leafL r)) (hr1 : r.1.length = 32) (hg1 : Blk w g 72 (nodeL (Tm.leaf p.1 p.2) (some q) none none)) (hq1 : Blk w q 75 (leafL p)) (hp1 : p.1.length = 32) (he : r.1 = p.1) :
    Calls Tryd.prog 44 #[.pointer (some ⟨g0, 0, none⟩), .pointer (some ⟨g, 0, none⟩), .int .i64 (dp : Int)] w fun e w' => e = .returned (.pointer (some ⟨g, 0, none⟩)) ∧ Below w.heap.size w w' := by
  have HR1 := hr1
  have HRL := Tm.leaf_length r.1 r.2
  have BN := Lib.hid hn
  have BQ := Lib.hid hq0
  have G1 := Lib.hid hg1
  have Q1 := Lib.hid hq1
  have NP0 := Lib.hid (nodeL_ptrs (q := some q0) (a := none) (b := none) HRL).1
  have NP1 := Lib.hid (nodeL_ptrs (q := some q) (a := none) (b := none) (Tm.leaf_length p.1 p.2)).1
  have HIR := Lib.hid (hash_info hr1)
  have HI1 := Lib.hid (hash_info hp1)
  have EQ := Lib.hid (hash_eq r.1 p.1 hr1 hp1)
  rw [decide_eq_true he] at EQ
  have LR := Lib.hid fun (W : World) (h : Blk W q0 75 (leafL r)) => leaf_label h hr1
  have LP := Lib.hid fun (W : World) (h : Blk W q 75 (leafL p)) => leaf_label h hp1
  obtain ⟨L0, hL0⟩ : ∃ L, L = r.1.map cellOf := ⟨_, rfl⟩
  obtain ⟨L1, hL1⟩ : ∃ L, L = p.1.map cellOf := ⟨_, rfl⟩
  rw [← hL0, ← hL1] at EQ
  rw [← hL0] at HIR LR
  rw [← hL1] at HI1 LP
  clear hn hq0 hg1 hq1 hL0 hL1
  go_enter Tryd.func44, Tryd.ntmps44
  go_upto_region 1 with (fail)
  refine wp_region_any (by kernel_rfl) ?_
  replace BN := Lib.hid BN.out.drew
  replace BQ := Lib.hid BQ.out.drew
  replace G1 := Lib.hid G1.out.drew
  replace Q1 := Lib.hid Q1.out.drew
  have HW : Hid (Below w.heap.size w w.drew) := (Below.refl _ _).drew
  change wpAny _ _ _ _ _ _ _ (World.drew _)
  generalize w.drew = w1 at *
  have c32 : w1.cell? ⟨g0, 32, none⟩ = some (.pointer (some ⟨q0, 0, none⟩)) := by rw [BN.out.cell]; exact NP0.out
  refine wpAny_take (i := 0) (oi := ?oi65) (v := .pointer (some ⟨g0, 0, none⟩)) ?hi65 (by kernel_rfl) (by kernel_rfl) (by kernel_rfl) ?hQ65 ?hy65 ?rest65
  case hi65 => simp only [zge]; rfl
  case hQ65 => exact fun _ _ _ h => h
  case hy65 => exact Or.inl ⟨by rfl, by intro w; go_simp⟩
  try simp only [zpt]
  refine wpAny_take (i := 1) (oi := ?oi66) (v := .bool false) ?hi66 (by kernel_rfl) (by kernel_rfl) (by kernel_rfl) ?hQ66 ?hy66 ?rest66
  case hi66 => simp only [zge]; rfl
  case hQ66 => exact fun _ _ _ h => h
  case hy66 => exact Or.inl ⟨by rfl, by intro w; go_simp⟩
  try simp only [zpt]
  refine wpAny_take (i := 2) (oi := ?oi67) (v := .bool false) ?hi67 (by kernel_rfl) (by kernel_rfl) (by kernel_rfl) ?hQ67 ?hy67 ?rest67
  case hi67 => simp only [zge]; rfl
  case hQ67 => exact fun _ _ _ h => h
  case hy67 => exact Or.inl ⟨by rfl, by intro w; go_simp⟩
  try simp only [zpt]
  refine wpAny_take (i := 3) (oi := ?oi68) (v := .pointer (some ⟨g0, 0, none⟩)) ?hi68 (by kernel_rfl) (by kernel_rfl) (by kernel_rfl) ?hQ68 ?hy68 ?rest68
  case hi68 => simp only [zge]; rfl
  case hQ68 => exact fun _ _ _ h => h
  case hy68 => exact Or.inl ⟨by rfl, by intro w; go_simp⟩
  try simp only [zpt]
  refine wpAny_take (i := 4) (oi := ?oi69) (v := .pointer (some ⟨g0, 0, none⟩)) ?hi69 (by kernel_rfl) (by kernel_rfl) (by kernel_rfl) ?hQ69 ?hy69 ?rest69
  case hi69 => simp only [zge]; rfl
  case hQ69 => exact fun _ _ _ h => h
  case hy69 => exact Or.inl ⟨by rfl, by intro w; go_simp⟩
  try simp only [zpt]
  refine wpAny_take (i := 5) (oi := ?oi70) (v := .pointer (some ⟨g0, 32, none⟩)) ?hi70 (by kernel_rfl) (by kernel_rfl) (by kernel_rfl) ?hQ70 ?hy70 ?rest70
  case hi70 => simp only [zge]; rfl
  case hQ70 => exact fun _ _ _ h => h
  case hy70 => exact Or.inl ⟨by rfl, by intro w; go_simp⟩
  try simp only [zpt]
  refine wpAny_ready (rs := [6]) (by kernel_rfl) (by simp) ?_
  refine AllReady.cons (o := ?p71) ?q71 (fun K hK => ?_) AllReady.nil
  case q71 => simp only [zge]; rfl
  go_simp
  refine hK _ _ ?_
  clear hK K
  try simp only [zpt]
  clear c32
  refine wpAny_take (i := 7) (oi := ?oi72) (v := .bool true) ?hi72 (by kernel_rfl) (by kernel_rfl) (by kernel_rfl) ?hQ72 ?hy72 ?rest72
  case hi72 => simp only [zge]; rfl
  case hQ72 => exact fun _ _ _ h => h
  case hy72 => exact Or.inl ⟨by rfl, by intro w; go_simp⟩
  try simp only [zpt]
  refine wpAny_take (i := 8) (oi := ?oi73) (v := .bool true) ?hi73 (by kernel_rfl) (by kernel_rfl) (by kernel_rfl) ?hQ73 ?hy73 ?rest73
  case hi73 => simp only [zge]; rfl
  case hQ73 => exact fun _ _ _ h => h
  case hy73 => exact Or.inl ⟨by rfl, by intro w; go_simp⟩
  try simp only [zpt]
  refine wpAny_take (i := 9) (oi := ?oi74) (v := .pointer (some ⟨g0, 0, none⟩)) ?hi74 (by kernel_rfl) (by kernel_rfl) (by kernel_rfl) ?hQ74 ?hy74 ?rest74
  case hi74 => simp only [zge]; rfl
  case hQ74 => exact fun _ _ _ h => h
  case hy74 => exact Or.inl ⟨by rfl, by intro w; go_simp⟩
  try simp only [zpt]
  refine wpAny_take (i := 10) (oi := ?oi75) (v := .pointer (some ⟨g0, 0, none⟩)) ?hi75 (by kernel_rfl) (by kernel_rfl) (by kernel_rfl) ?hQ75 ?hy75 ?rest75
  case hi75 => simp only [zge]; rfl
  case hQ75 => exact fun _ _ _ h => h
  case hy75 => exact Or.inl ⟨by rfl, by intro w; go_simp⟩
  try simp only [zpt]
  refine wpAny_take (i := 11) (oi := ?oi76) (v := .pointer (some ⟨g0, 32, none⟩)) ?hi76 (by kernel_rfl) (by kernel_rfl) (by kernel_rfl) ?hQ76 ?hy76 ?rest76
  case hi76 => simp only [zge]; rfl
  case hQ76 => exact fun _ _ _ h => h
  case hy76 => exact Or.inl ⟨by rfl, by intro w; go_simp⟩
  try simp only [zpt]
  refine wpAny_take (i := 16) (oi := ?oi77) (v := .pointer (some ⟨g, 0, none⟩)) ?hi77 (by kernel_rfl) (by kernel_rfl) (by kernel_rfl) ?hQ77 ?hy77 ?rest77
  case hi77 => simp only [zge]; rfl
  case hQ77 => exact fun _ _ _ h => h
  case hy77 => exact Or.inl ⟨by rfl, by intro w; go_simp⟩
  try simp only [zpt]
  refine wpAny_take (i := 17) (oi := ?oi78) (v := .pointer (some ⟨g, 0, none⟩)) ?hi78 (by kernel_rfl) (by kernel_rfl) (by kernel_rfl) ?hQ78 ?hy78 ?rest78
  case hi78 => simp only [zge]; rfl
  case hQ78 => exact fun _ _ _ h => h
  case hy78 => exact Or.inl ⟨by rfl, by intro w; go_simp⟩
  try simp only [zpt]
  refine wpAny_take (i := 18) (oi := ?oi79) (v := .pointer (some ⟨g, 32, none⟩)) ?hi79 (by kernel_rfl) (by kernel_rfl) (by kernel_rfl) ?hQ79 ?hy79 ?rest79
  case hi79 => simp only [zge]; rfl
  case hQ79 => exact fun _ _ _ h => h
  case hy79 => exact Or.inl ⟨by rfl, by intro w; go_simp⟩
  try simp only [zpt]
  refine phaseL (fun i => if i = 13 then [12] else if i = 14 then [13] else if i = 15 then [14] else if i = 20 then [19] else if i = 21 then [20] else if i = 22 then [21] else []) (fun d a w' => ∃ x21 x22 x23 x24 x28 x29 x30 x31 : Value, a = { tmps := #[.pointer (some ⟨g0, 0, none⟩), .pointer (some ⟨g, 0, none⟩), .int .i64 (dp : Int), undef, undef, undef, .pointer none, undef, undef, .pointer (some ⟨g0, 0, none⟩), .bool false, .bool false, .pointer (some ⟨g0, 0, none⟩), .pointer (some ⟨g0, 0, none⟩), .pointer (some ⟨g0, 32, none⟩), .pointer (some ⟨q0, 0, none⟩), .bool true, .bool true, .pointer (some ⟨g0, 0, none⟩), .pointer (some ⟨g0, 0, none⟩), .pointer (some ⟨g0, 32, none⟩), x21, x22, x23, x24, .pointer (some ⟨g, 0, none⟩), .pointer (some ⟨g, 0, none⟩), .pointer (some ⟨g, 32, none⟩), x28, x29, x30, x31, undef, undef, undef, undef, undef, undef, undef, undef, undef, undef, undef, undef, undef, undef, undef, undef, undef, undef, undef, undef, undef, undef, undef, undef, undef, undef, undef, undef, undef, undef, undef, undef, undef, undef, undef, undef, undef, undef, undef, undef, undef, undef, undef, undef, undef, undef, undef, undef, undef, undef, undef, undef], defers := [] } ∧ Hid (Below w1.heap.size w1 w') ∧ (d 12 = true → x21 = .pointer (some ⟨q0, 0, none⟩)) ∧ (d 13 = true → x22 = .pointer (some ⟨q0, 0, none⟩)) ∧ (d 14 = true → x23 = .pointer (some ⟨q0, 0, none⟩)) ∧ (d 15 = true → x24 = .agg L0.toArray) ∧ (d 19 = true → x28 = .pointer (some ⟨q, 0, none⟩)) ∧ (d 20 = true → x29 = .pointer (some ⟨q, 0, none⟩)) ∧ (d 21 = true → x30 = .pointer (some ⟨q, 0, none⟩)) ∧ (d 22 = true → x31 = .agg L1.toArray)) [12, 13, 14, 15, 19, 20, 21, 22] ?step80 3 8 [12, 13, 14, 15, 19, 20, 21, 22] _ _ _ rfl (by decide) (fun _ h => h) (Fits.of (by kernel_rfl)) ?init80 ?fin80
  case init80 => refine ⟨_, _, _, _, _, _, _, _, rfl, Below.refl _ _, ?_, ?_, ?_, ?_, ?_, ?_, ?_, ?_⟩ <;> (intro h; exact absurd h (by decide))
  case step80 =>
    intro i hi d a v80 hI hdi hdeps
    obtain ⟨x21, x22, x23, x24, x28, x29, x30, x31, rfl, BW, h12, h13, h14, h15, h19, h20, h21, h22⟩ := hI
    have hsw := BW.out.size
    simp only [List.mem_cons, List.not_mem_nil, or_false] at hi
    rcases hi with rfl | rfl | rfl | rfl | rfl | rfl | rfl | rfl
    · have c0 : v80.cell? ⟨g0, 32, none⟩ = some (.pointer (some ⟨q0, 0, none⟩)) := by rw [(BN.out.below BW.out BN.out.lt).cell]; exact NP0.out
      refine wpOp_step (o := ?os81) ?hos81 (fun K hK => ?_)
      case hos81 => simp only [zge]; rfl
      go_simp
      refine hK _ _ ?_
      clear hK K
      try simp only [zpt]
      exact ⟨_, _, _, _, _, _, _, _, rfl, BW, fun _ => rfl, fun a => by first | exact h13 (by simpa using a) | rfl, fun a => by first | exact h14 (by simpa using a) | rfl, fun a => by first | exact h15 (by simpa using a) | rfl, fun a => by first | exact h19 (by simpa using a) | rfl, fun a => by first | exact h20 (by simpa using a) | rfl, fun a => by first | exact h21 (by simpa using a) | rfl, fun a => by first | exact h22 (by simpa using a) | rfl⟩
    · obtain rfl := h12 (hdeps 12 (by simp))
      refine wpOp_step (o := ?os82) ?hos82 (fun K hK => ?_)
      case hos82 => simp only [zge]; rfl
      go_simp
      refine hK _ _ ?_
      clear hK K
      try simp only [zpt]
      exact ⟨_, _, _, _, _, _, _, _, rfl, BW, fun a => by first | exact h12 (by simpa using a) | rfl, fun _ => rfl, fun a => by first | exact h14 (by simpa using a) | rfl, fun a => by first | exact h15 (by simpa using a) | rfl, fun a => by first | exact h19 (by simpa using a) | rfl, fun a => by first | exact h20 (by simpa using a) | rfl, fun a => by first | exact h21 (by simpa using a) | rfl, fun a => by first | exact h22 (by simpa using a) | rfl⟩
    · obtain rfl := h13 (hdeps 13 (by simp))
      refine wpOp_step (o := ?os83) ?hos83 (fun K hK => ?_)
      case hos83 => simp only [zge]; rfl
      go_simp
      refine hK _ _ ?_
      clear hK K
      try simp only [zpt]
      exact ⟨_, _, _, _, _, _, _, _, rfl, BW, fun a => by first | exact h12 (by simpa using a) | rfl, fun a => by first | exact h13 (by simpa using a) | rfl, fun _ => rfl, fun a => by first | exact h15 (by simpa using a) | rfl, fun a => by first | exact h19 (by simpa using a) | rfl, fun a => by first | exact h20 (by simpa using a) | rfl, fun a => by first | exact h21 (by simpa using a) | rfl, fun a => by first | exact h22 (by simpa using a) | rfl⟩
    · obtain rfl := h14 (hdeps 14 (by simp))
      refine wpOp_step (o := ?os84) ?hos84 (fun K hK => ?_)
      case hos84 => simp only [zge]; rfl
      refine step_loadW rfl 30 (.tmp 23) rfl q0 0 rfl L0 _ Tryd.underlying30 rfl HIR.out (LR.out v80 (BQ.out.below BW.out BQ.out.lt)) (hK _ _ ?_)
      clear hK K
      try simp only [zpt]
      exact ⟨_, _, _, _, _, _, _, _, rfl, BW, fun a => by first | exact h12 (by simpa using a) | rfl, fun a => by first | exact h13 (by simpa using a) | rfl, fun a => by first | exact h14 (by simpa using a) | rfl, fun _ => rfl, fun a => by first | exact h19 (by simpa using a) | rfl, fun a => by first | exact h20 (by simpa using a) | rfl, fun a => by first | exact h21 (by simpa using a) | rfl, fun a => by first | exact h22 (by simpa using a) | rfl⟩
    · have c0 : v80.cell? ⟨g, 32, none⟩ = some (.pointer (some ⟨q, 0, none⟩)) := by rw [(G1.out.below BW.out G1.out.lt).cell]; exact NP1.out
      refine wpOp_step (o := ?os85) ?hos85 (fun K hK => ?_)
      case hos85 => simp only [zge]; rfl
      go_simp
      refine hK _ _ ?_
      clear hK K
      try simp only [zpt]
      exact ⟨_, _, _, _, _, _, _, _, rfl, BW, fun a => by first | exact h12 (by simpa using a) | rfl, fun a => by first | exact h13 (by simpa using a) | rfl, fun a => by first | exact h14 (by simpa using a) | rfl, fun a => by first | exact h15 (by simpa using a) | rfl, fun _ => rfl, fun a => by first | exact h20 (by simpa using a) | rfl, fun a => by first | exact h21 (by simpa using a) | rfl, fun a => by first | exact h22 (by simpa using a) | rfl⟩
    · obtain rfl := h19 (hdeps 19 (by simp))
      refine wpOp_step (o := ?os86) ?hos86 (fun K hK => ?_)
      case hos86 => simp only [zge]; rfl
      go_simp
      refine hK _ _ ?_
      clear hK K
      try simp only [zpt]
      exact ⟨_, _, _, _, _, _, _, _, rfl, BW, fun a => by first | exact h12 (by simpa using a) | rfl, fun a => by first | exact h13 (by simpa using a) | rfl, fun a => by first | exact h14 (by simpa using a) | rfl, fun a => by first | exact h15 (by simpa using a) | rfl, fun a => by first | exact h19 (by simpa using a) | rfl, fun _ => rfl, fun a => by first | exact h21 (by simpa using a) | rfl, fun a => by first | exact h22 (by simpa using a) | rfl⟩
    · obtain rfl := h20 (hdeps 20 (by simp))
      refine wpOp_step (o := ?os87) ?hos87 (fun K hK => ?_)
      case hos87 => simp only [zge]; rfl
      go_simp
      refine hK _ _ ?_
      clear hK K
      try simp only [zpt]
      exact ⟨_, _, _, _, _, _, _, _, rfl, BW, fun a => by first | exact h12 (by simpa using a) | rfl, fun a => by first | exact h13 (by simpa using a) | rfl, fun a => by first | exact h14 (by simpa using a) | rfl, fun a => by first | exact h15 (by simpa using a) | rfl, fun a => by first | exact h19 (by simpa using a) | rfl, fun a => by first | exact h20 (by simpa using a) | rfl, fun _ => rfl, fun a => by first | exact h22 (by simpa using a) | rfl⟩
    · obtain rfl := h21 (hdeps 21 (by simp))
      refine wpOp_step (o := ?os88) ?hos88 (fun K hK => ?_)
      case hos88 => simp only [zge]; rfl
      refine step_loadW rfl 30 (.tmp 30) rfl q 0 rfl L1 _ Tryd.underlying30 rfl HI1.out (LP.out v80 (Q1.out.below BW.out Q1.out.lt)) (hK _ _ ?_)
      clear hK K
      try simp only [zpt]
      exact ⟨_, _, _, _, _, _, _, _, rfl, BW, fun a => by first | exact h12 (by simpa using a) | rfl, fun a => by first | exact h13 (by simpa using a) | rfl, fun a => by first | exact h14 (by simpa using a) | rfl, fun a => by first | exact h15 (by simpa using a) | rfl, fun a => by first | exact h19 (by simpa using a) | rfl, fun a => by first | exact h20 (by simpa using a) | rfl, fun a => by first | exact h21 (by simpa using a) | rfl, fun _ => rfl⟩
  case fin80 =>
    intro a v80 hI
    obtain ⟨x21, x22, x23, x24, x28, x29, x30, x31, rfl, BW, h12, h13, h14, h15, h19, h20, h21, h22⟩ := hI
    obtain rfl := h12 (by decide)
    obtain rfl := h13 (by decide)
    obtain rfl := h14 (by decide)
    obtain rfl := h15 (by decide)
    obtain rfl := h19 (by decide)
    obtain rfl := h20 (by decide)
    obtain rfl := h21 (by decide)
    obtain rfl := h22 (by decide)
    have W1 := Lib.hid (HW.out.trans (BW.out.mono HW.out.size))
    have BN1 := Lib.hid (BN.out.below BW.out BN.out.lt)
    have BQ1 := Lib.hid (BQ.out.below BW.out BQ.out.lt)
    have eq0 := EQ.out
    clear BW HW BN BQ G1 Q1 EQ
    try dsimp only
    refine wpAny_take (i := 23) (oi := ?oi89) (v := .bool true) ?hi89 (by kernel_rfl) (by kernel_rfl) (by kernel_rfl) ?hQ89 ?hy89 ?rest89
    case hi89 => simp only [zge]; rfl
    case hQ89 => exact fun _ _ _ h => h
    case hy89 => exact Or.inl ⟨by rfl, by intro w; go_simp⟩
    try simp only [zpt]
    refine wpAny_take (i := 24) (oi := ?oi90) (v := .bool true) ?hi90 (by kernel_rfl) (by kernel_rfl) (by kernel_rfl) ?hQ90 ?hy90 ?rest90
    case hi90 => simp only [zge]; rfl
    case hQ90 => exact fun _ _ _ h => h
    case hy90 => exact Or.inl ⟨by rfl, by intro w; go_simp⟩
    try simp only [zpt]
    refine wpAny_take (i := 25) (oi := ?oi91) (v := .bool true) ?hi91 (by kernel_rfl) (by kernel_rfl) (by kernel_rfl) ?hQ91 ?hy91 ?rest91
    case hi91 => simp only [zge]; rfl
    case hQ91 => exact fun _ _ _ h => h
    case hy91 => exact Or.inl ⟨by rfl, by intro w; go_simp⟩
    try simp only [zpt]
    clear eq0
    refine wpAny_done (by kernel_rfl) ?_ _
    go_wp2_with fail
    go_ret
    exact ⟨rfl, W1.out⟩
set_option maxRecDepth 100000 in
set_option maxHeartbeats 2000000 in
theorem with_leaf {w : World} (hg : Gl w) {g0 q0 dp : Nat} {r p : Tm.P} {g q : Nat} (hn : Blk w g0 72 (nodeL (Tm.leaf r.1 r.2) (some q0) none none)) (hq0 : Blk w q0 75 (leafL r)) (hr1 : r.1.length = 32) (hg1 : Blk w g 72 (nodeL (Tm.leaf p.1 p.2) (some q) none none)) (hq1 : Blk w q 75 (leafL p)) (hp1 : p.1.length = 32) (hp2 : p.2.length = 32) (he : r.1 ≠ p.1) {l : List Tm.P} (hl : l = [r]) (hf : Tm.Fit dp l) (hw : ∀ s ∈ l, ∀ i, i < dp → Tm.bit p.1 i = Tm.bit s.1 i) (hd : dp < 256) (f : Nat) (hfd : f + (dp + 1) = 256) (ih : WithC f) :
    Calls Tryd.prog 44 #[.pointer (some ⟨g0, 0, none⟩), .pointer (some ⟨g, 0, none⟩), .int .i64 (dp : Int)] w fun e w' => ∃ m, e = .returned (.pointer (some ⟨m, 0, none⟩)) ∧ Tr w' (some m) dp (Tm.put p l) ∧ Below w.heap.size w w' := by
  have HL := Lib.hid hl
  have IH : Hid (WithC f) := ih
  have HWY := Lib.hid hw
  have HF := Lib.hid hf
  have HG1 := Lib.hid hg1
  have HQ1 := Lib.hid hq1
  have HG := Lib.hid hg
  have HT0 : Hid (Tr w (some g0) (dp + 1) [r]) := .one hn hq0
  clear ih hw hf hg
  have L2 : 2 ≤ (Tm.put p l).length := by rw [hl, Tm.put, if_neg he, Tm.put]; simp
  clear hl
  have CB0 : Hid (∀ W, Calls Tryd.prog 41 #[hv r.1, .int .i64 (dp : Int)] W fun e w' => e = .returned (.int .i64 (bitI r.1 dp)) ∧ Below W.heap.size W w') := fun W => bit_any hr1 hd W
  unfold hv at CB0
  have HR1 := hr1
  have HRL := Tm.leaf_length r.1 r.2
  have BN := Lib.hid hn
  have BQ := Lib.hid hq0
  have G1 := Lib.hid hg1
  have Q1 := Lib.hid hq1
  have NP0 := Lib.hid (nodeL_ptrs (q := some q0) (a := none) (b := none) HRL).1
  have NP1 := Lib.hid (nodeL_ptrs (q := some q) (a := none) (b := none) (Tm.leaf_length p.1 p.2)).1
  have HIR := Lib.hid (hash_info hr1)
  have HI1 := Lib.hid (hash_info hp1)
  have EQ := Lib.hid (hash_eq r.1 p.1 hr1 hp1)
  rw [decide_eq_false he] at EQ
  have LR := Lib.hid fun (W : World) (h : Blk W q0 75 (leafL r)) => leaf_label h hr1
  have LP := Lib.hid fun (W : World) (h : Blk W q 75 (leafL p)) => leaf_label h hp1
  obtain ⟨L0, hL0⟩ : ∃ L, L = r.1.map cellOf := ⟨_, rfl⟩
  obtain ⟨L1, hL1⟩ : ∃ L, L = p.1.map cellOf := ⟨_, rfl⟩
  rw [← hL0, ← hL1] at EQ
  rw [← hL0] at HIR LR CB0
  rw [← hL1] at HI1 LP
  clear hn hq0 hg1 hq1 hL0 hL1
  go_enter Tryd.func44, Tryd.ntmps44
  go_upto_region 1 with (fail)
  refine wp_region_any (by kernel_rfl) ?_
  replace BN := Lib.hid BN.out.drew
  replace BQ := Lib.hid BQ.out.drew
  replace G1 := Lib.hid G1.out.drew
  replace Q1 := Lib.hid Q1.out.drew
  have HW : Hid (Below w.heap.size w w.drew) := (Below.refl _ _).drew
  change wpAny _ _ _ _ _ _ _ (World.drew _)
  generalize w.drew = w1 at *
  have c32 : w1.cell? ⟨g0, 32, none⟩ = some (.pointer (some ⟨q0, 0, none⟩)) := by rw [BN.out.cell]; exact NP0.out
  refine wpAny_take (i := 0) (oi := ?oi92) (v := .pointer (some ⟨g0, 0, none⟩)) ?hi92 (by kernel_rfl) (by kernel_rfl) (by kernel_rfl) ?hQ92 ?hy92 ?rest92
  case hi92 => simp only [zge]; rfl
  case hQ92 => exact fun _ _ _ h => h
  case hy92 => exact Or.inl ⟨by rfl, by intro w; go_simp⟩
  try simp only [zpt]
  refine wpAny_take (i := 1) (oi := ?oi93) (v := .bool false) ?hi93 (by kernel_rfl) (by kernel_rfl) (by kernel_rfl) ?hQ93 ?hy93 ?rest93
  case hi93 => simp only [zge]; rfl
  case hQ93 => exact fun _ _ _ h => h
  case hy93 => exact Or.inl ⟨by rfl, by intro w; go_simp⟩
  try simp only [zpt]
  refine wpAny_take (i := 2) (oi := ?oi94) (v := .bool false) ?hi94 (by kernel_rfl) (by kernel_rfl) (by kernel_rfl) ?hQ94 ?hy94 ?rest94
  case hi94 => simp only [zge]; rfl
  case hQ94 => exact fun _ _ _ h => h
  case hy94 => exact Or.inl ⟨by rfl, by intro w; go_simp⟩
  try simp only [zpt]
  refine wpAny_take (i := 3) (oi := ?oi95) (v := .pointer (some ⟨g0, 0, none⟩)) ?hi95 (by kernel_rfl) (by kernel_rfl) (by kernel_rfl) ?hQ95 ?hy95 ?rest95
  case hi95 => simp only [zge]; rfl
  case hQ95 => exact fun _ _ _ h => h
  case hy95 => exact Or.inl ⟨by rfl, by intro w; go_simp⟩
  try simp only [zpt]
  refine wpAny_take (i := 4) (oi := ?oi96) (v := .pointer (some ⟨g0, 0, none⟩)) ?hi96 (by kernel_rfl) (by kernel_rfl) (by kernel_rfl) ?hQ96 ?hy96 ?rest96
  case hi96 => simp only [zge]; rfl
  case hQ96 => exact fun _ _ _ h => h
  case hy96 => exact Or.inl ⟨by rfl, by intro w; go_simp⟩
  try simp only [zpt]
  refine wpAny_take (i := 5) (oi := ?oi97) (v := .pointer (some ⟨g0, 32, none⟩)) ?hi97 (by kernel_rfl) (by kernel_rfl) (by kernel_rfl) ?hQ97 ?hy97 ?rest97
  case hi97 => simp only [zge]; rfl
  case hQ97 => exact fun _ _ _ h => h
  case hy97 => exact Or.inl ⟨by rfl, by intro w; go_simp⟩
  try simp only [zpt]
  refine wpAny_ready (rs := [6]) (by kernel_rfl) (by simp) ?_
  refine AllReady.cons (o := ?p98) ?q98 (fun K hK => ?_) AllReady.nil
  case q98 => simp only [zge]; rfl
  go_simp
  refine hK _ _ ?_
  clear hK K
  try simp only [zpt]
  clear c32
  refine wpAny_take (i := 7) (oi := ?oi99) (v := .bool true) ?hi99 (by kernel_rfl) (by kernel_rfl) (by kernel_rfl) ?hQ99 ?hy99 ?rest99
  case hi99 => simp only [zge]; rfl
  case hQ99 => exact fun _ _ _ h => h
  case hy99 => exact Or.inl ⟨by rfl, by intro w; go_simp⟩
  try simp only [zpt]
  refine wpAny_take (i := 8) (oi := ?oi100) (v := .bool true) ?hi100 (by kernel_rfl) (by kernel_rfl) (by kernel_rfl) ?hQ100 ?hy100 ?rest100
  case hi100 => simp only [zge]; rfl
  case hQ100 => exact fun _ _ _ h => h
  case hy100 => exact Or.inl ⟨by rfl, by intro w; go_simp⟩
  try simp only [zpt]
  refine wpAny_take (i := 9) (oi := ?oi101) (v := .pointer (some ⟨g0, 0, none⟩)) ?hi101 (by kernel_rfl) (by kernel_rfl) (by kernel_rfl) ?hQ101 ?hy101 ?rest101
  case hi101 => simp only [zge]; rfl
  case hQ101 => exact fun _ _ _ h => h
  case hy101 => exact Or.inl ⟨by rfl, by intro w; go_simp⟩
  try simp only [zpt]
  refine wpAny_take (i := 10) (oi := ?oi102) (v := .pointer (some ⟨g0, 0, none⟩)) ?hi102 (by kernel_rfl) (by kernel_rfl) (by kernel_rfl) ?hQ102 ?hy102 ?rest102
  case hi102 => simp only [zge]; rfl
  case hQ102 => exact fun _ _ _ h => h
  case hy102 => exact Or.inl ⟨by rfl, by intro w; go_simp⟩
  try simp only [zpt]
  refine wpAny_take (i := 11) (oi := ?oi103) (v := .pointer (some ⟨g0, 32, none⟩)) ?hi103 (by kernel_rfl) (by kernel_rfl) (by kernel_rfl) ?hQ103 ?hy103 ?rest103
  case hi103 => simp only [zge]; rfl
  case hQ103 => exact fun _ _ _ h => h
  case hy103 => exact Or.inl ⟨by rfl, by intro w; go_simp⟩
  try simp only [zpt]
  refine wpAny_take (i := 16) (oi := ?oi104) (v := .pointer (some ⟨g, 0, none⟩)) ?hi104 (by kernel_rfl) (by kernel_rfl) (by kernel_rfl) ?hQ104 ?hy104 ?rest104
  case hi104 => simp only [zge]; rfl
  case hQ104 => exact fun _ _ _ h => h
  case hy104 => exact Or.inl ⟨by rfl, by intro w; go_simp⟩
  try simp only [zpt]
  refine wpAny_take (i := 17) (oi := ?oi105) (v := .pointer (some ⟨g, 0, none⟩)) ?hi105 (by kernel_rfl) (by kernel_rfl) (by kernel_rfl) ?hQ105 ?hy105 ?rest105
  case hi105 => simp only [zge]; rfl
  case hQ105 => exact fun _ _ _ h => h
  case hy105 => exact Or.inl ⟨by rfl, by intro w; go_simp⟩
  try simp only [zpt]
  refine wpAny_take (i := 18) (oi := ?oi106) (v := .pointer (some ⟨g, 32, none⟩)) ?hi106 (by kernel_rfl) (by kernel_rfl) (by kernel_rfl) ?hQ106 ?hy106 ?rest106
  case hi106 => simp only [zge]; rfl
  case hQ106 => exact fun _ _ _ h => h
  case hy106 => exact Or.inl ⟨by rfl, by intro w; go_simp⟩
  try simp only [zpt]
  refine phaseL (fun i => if i = 13 then [12] else if i = 14 then [13] else if i = 15 then [14] else if i = 20 then [19] else if i = 21 then [20] else if i = 22 then [21] else []) (fun d a w' => ∃ x21 x22 x23 x24 x28 x29 x30 x31 : Value, a = { tmps := #[.pointer (some ⟨g0, 0, none⟩), .pointer (some ⟨g, 0, none⟩), .int .i64 (dp : Int), undef, undef, undef, .pointer none, undef, undef, .pointer (some ⟨g0, 0, none⟩), .bool false, .bool false, .pointer (some ⟨g0, 0, none⟩), .pointer (some ⟨g0, 0, none⟩), .pointer (some ⟨g0, 32, none⟩), .pointer (some ⟨q0, 0, none⟩), .bool true, .bool true, .pointer (some ⟨g0, 0, none⟩), .pointer (some ⟨g0, 0, none⟩), .pointer (some ⟨g0, 32, none⟩), x21, x22, x23, x24, .pointer (some ⟨g, 0, none⟩), .pointer (some ⟨g, 0, none⟩), .pointer (some ⟨g, 32, none⟩), x28, x29, x30, x31, undef, undef, undef, undef, undef, undef, undef, undef, undef, undef, undef, undef, undef, undef, undef, undef, undef, undef, undef, undef, undef, undef, undef, undef, undef, undef, undef, undef, undef, undef, undef, undef, undef, undef, undef, undef, undef, undef, undef, undef, undef, undef, undef, undef, undef, undef, undef, undef, undef, undef, undef, undef], defers := [] } ∧ Hid (Below w1.heap.size w1 w') ∧ (d 12 = true → x21 = .pointer (some ⟨q0, 0, none⟩)) ∧ (d 13 = true → x22 = .pointer (some ⟨q0, 0, none⟩)) ∧ (d 14 = true → x23 = .pointer (some ⟨q0, 0, none⟩)) ∧ (d 15 = true → x24 = .agg L0.toArray) ∧ (d 19 = true → x28 = .pointer (some ⟨q, 0, none⟩)) ∧ (d 20 = true → x29 = .pointer (some ⟨q, 0, none⟩)) ∧ (d 21 = true → x30 = .pointer (some ⟨q, 0, none⟩)) ∧ (d 22 = true → x31 = .agg L1.toArray)) [12, 13, 14, 15, 19, 20, 21, 22] ?step107 3 8 [12, 13, 14, 15, 19, 20, 21, 22] _ _ _ rfl (by decide) (fun _ h => h) (Fits.of (by kernel_rfl)) ?init107 ?fin107
  case init107 => refine ⟨_, _, _, _, _, _, _, _, rfl, Below.refl _ _, ?_, ?_, ?_, ?_, ?_, ?_, ?_, ?_⟩ <;> (intro h; exact absurd h (by decide))
  case step107 =>
    intro i hi d a v107 hI hdi hdeps
    obtain ⟨x21, x22, x23, x24, x28, x29, x30, x31, rfl, BW, h12, h13, h14, h15, h19, h20, h21, h22⟩ := hI
    have hsw := BW.out.size
    simp only [List.mem_cons, List.not_mem_nil, or_false] at hi
    rcases hi with rfl | rfl | rfl | rfl | rfl | rfl | rfl | rfl
    · have c0 : v107.cell? ⟨g0, 32, none⟩ = some (.pointer (some ⟨q0, 0, none⟩)) := by rw [(BN.out.below BW.out BN.out.lt).cell]; exact NP0.out
      refine wpOp_step (o := ?os108) ?hos108 (fun K hK => ?_)
      case hos108 => simp only [zge]; rfl
      go_simp
      refine hK _ _ ?_
      clear hK K
      try simp only [zpt]
      exact ⟨_, _, _, _, _, _, _, _, rfl, BW, fun _ => rfl, fun a => by first | exact h13 (by simpa using a) | rfl, fun a => by first | exact h14 (by simpa using a) | rfl, fun a => by first | exact h15 (by simpa using a) | rfl, fun a => by first | exact h19 (by simpa using a) | rfl, fun a => by first | exact h20 (by simpa using a) | rfl, fun a => by first | exact h21 (by simpa using a) | rfl, fun a => by first | exact h22 (by simpa using a) | rfl⟩
    · obtain rfl := h12 (hdeps 12 (by simp))
      refine wpOp_step (o := ?os109) ?hos109 (fun K hK => ?_)
      case hos109 => simp only [zge]; rfl
      go_simp
      refine hK _ _ ?_
      clear hK K
      try simp only [zpt]
      exact ⟨_, _, _, _, _, _, _, _, rfl, BW, fun a => by first | exact h12 (by simpa using a) | rfl, fun _ => rfl, fun a => by first | exact h14 (by simpa using a) | rfl, fun a => by first | exact h15 (by simpa using a) | rfl, fun a => by first | exact h19 (by simpa using a) | rfl, fun a => by first | exact h20 (by simpa using a) | rfl, fun a => by first | exact h21 (by simpa using a) | rfl, fun a => by first | exact h22 (by simpa using a) | rfl⟩
    · obtain rfl := h13 (hdeps 13 (by simp))
      refine wpOp_step (o := ?os110) ?hos110 (fun K hK => ?_)
      case hos110 => simp only [zge]; rfl
      go_simp
      refine hK _ _ ?_
      clear hK K
      try simp only [zpt]
      exact ⟨_, _, _, _, _, _, _, _, rfl, BW, fun a => by first | exact h12 (by simpa using a) | rfl, fun a => by first | exact h13 (by simpa using a) | rfl, fun _ => rfl, fun a => by first | exact h15 (by simpa using a) | rfl, fun a => by first | exact h19 (by simpa using a) | rfl, fun a => by first | exact h20 (by simpa using a) | rfl, fun a => by first | exact h21 (by simpa using a) | rfl, fun a => by first | exact h22 (by simpa using a) | rfl⟩
    · obtain rfl := h14 (hdeps 14 (by simp))
      refine wpOp_step (o := ?os111) ?hos111 (fun K hK => ?_)
      case hos111 => simp only [zge]; rfl
      refine step_loadW rfl 30 (.tmp 23) rfl q0 0 rfl L0 _ Tryd.underlying30 rfl HIR.out (LR.out v107 (BQ.out.below BW.out BQ.out.lt)) (hK _ _ ?_)
      clear hK K
      try simp only [zpt]
      exact ⟨_, _, _, _, _, _, _, _, rfl, BW, fun a => by first | exact h12 (by simpa using a) | rfl, fun a => by first | exact h13 (by simpa using a) | rfl, fun a => by first | exact h14 (by simpa using a) | rfl, fun _ => rfl, fun a => by first | exact h19 (by simpa using a) | rfl, fun a => by first | exact h20 (by simpa using a) | rfl, fun a => by first | exact h21 (by simpa using a) | rfl, fun a => by first | exact h22 (by simpa using a) | rfl⟩
    · have c0 : v107.cell? ⟨g, 32, none⟩ = some (.pointer (some ⟨q, 0, none⟩)) := by rw [(G1.out.below BW.out G1.out.lt).cell]; exact NP1.out
      refine wpOp_step (o := ?os112) ?hos112 (fun K hK => ?_)
      case hos112 => simp only [zge]; rfl
      go_simp
      refine hK _ _ ?_
      clear hK K
      try simp only [zpt]
      exact ⟨_, _, _, _, _, _, _, _, rfl, BW, fun a => by first | exact h12 (by simpa using a) | rfl, fun a => by first | exact h13 (by simpa using a) | rfl, fun a => by first | exact h14 (by simpa using a) | rfl, fun a => by first | exact h15 (by simpa using a) | rfl, fun _ => rfl, fun a => by first | exact h20 (by simpa using a) | rfl, fun a => by first | exact h21 (by simpa using a) | rfl, fun a => by first | exact h22 (by simpa using a) | rfl⟩
    · obtain rfl := h19 (hdeps 19 (by simp))
      refine wpOp_step (o := ?os113) ?hos113 (fun K hK => ?_)
      case hos113 => simp only [zge]; rfl
      go_simp
      refine hK _ _ ?_
      clear hK K
      try simp only [zpt]
      exact ⟨_, _, _, _, _, _, _, _, rfl, BW, fun a => by first | exact h12 (by simpa using a) | rfl, fun a => by first | exact h13 (by simpa using a) | rfl, fun a => by first | exact h14 (by simpa using a) | rfl, fun a => by first | exact h15 (by simpa using a) | rfl, fun a => by first | exact h19 (by simpa using a) | rfl, fun _ => rfl, fun a => by first | exact h21 (by simpa using a) | rfl, fun a => by first | exact h22 (by simpa using a) | rfl⟩
    · obtain rfl := h20 (hdeps 20 (by simp))
      refine wpOp_step (o := ?os114) ?hos114 (fun K hK => ?_)
      case hos114 => simp only [zge]; rfl
      go_simp
      refine hK _ _ ?_
      clear hK K
      try simp only [zpt]
      exact ⟨_, _, _, _, _, _, _, _, rfl, BW, fun a => by first | exact h12 (by simpa using a) | rfl, fun a => by first | exact h13 (by simpa using a) | rfl, fun a => by first | exact h14 (by simpa using a) | rfl, fun a => by first | exact h15 (by simpa using a) | rfl, fun a => by first | exact h19 (by simpa using a) | rfl, fun a => by first | exact h20 (by simpa using a) | rfl, fun _ => rfl, fun a => by first | exact h22 (by simpa using a) | rfl⟩
    · obtain rfl := h21 (hdeps 21 (by simp))
      refine wpOp_step (o := ?os115) ?hos115 (fun K hK => ?_)
      case hos115 => simp only [zge]; rfl
      refine step_loadW rfl 30 (.tmp 30) rfl q 0 rfl L1 _ Tryd.underlying30 rfl HI1.out (LP.out v107 (Q1.out.below BW.out Q1.out.lt)) (hK _ _ ?_)
      clear hK K
      try simp only [zpt]
      exact ⟨_, _, _, _, _, _, _, _, rfl, BW, fun a => by first | exact h12 (by simpa using a) | rfl, fun a => by first | exact h13 (by simpa using a) | rfl, fun a => by first | exact h14 (by simpa using a) | rfl, fun a => by first | exact h15 (by simpa using a) | rfl, fun a => by first | exact h19 (by simpa using a) | rfl, fun a => by first | exact h20 (by simpa using a) | rfl, fun a => by first | exact h21 (by simpa using a) | rfl, fun _ => rfl⟩
  case fin107 =>
    intro a v107 hI
    obtain ⟨x21, x22, x23, x24, x28, x29, x30, x31, rfl, BW, h12, h13, h14, h15, h19, h20, h21, h22⟩ := hI
    obtain rfl := h12 (by decide)
    obtain rfl := h13 (by decide)
    obtain rfl := h14 (by decide)
    obtain rfl := h15 (by decide)
    obtain rfl := h19 (by decide)
    obtain rfl := h20 (by decide)
    obtain rfl := h21 (by decide)
    obtain rfl := h22 (by decide)
    have W1 := Lib.hid (HW.out.trans (BW.out.mono HW.out.size))
    have BN1 := Lib.hid (BN.out.below BW.out BN.out.lt)
    have BQ1 := Lib.hid (BQ.out.below BW.out BQ.out.lt)
    have eq0 := EQ.out
    clear BW HW BN BQ G1 Q1 EQ
    try dsimp only
    refine wpAny_take (i := 23) (oi := ?oi116) (v := .bool false) ?hi116 (by kernel_rfl) (by kernel_rfl) (by kernel_rfl) ?hQ116 ?hy116 ?rest116
    case hi116 => simp only [zge]; rfl
    case hQ116 => exact fun _ _ _ h => h
    case hy116 => exact Or.inl ⟨by rfl, by intro w; go_simp⟩
    try simp only [zpt]
    refine wpAny_take (i := 24) (oi := ?oi117) (v := .bool false) ?hi117 (by kernel_rfl) (by kernel_rfl) (by kernel_rfl) ?hQ117 ?hy117 ?rest117
    case hi117 => simp only [zge]; rfl
    case hQ117 => exact fun _ _ _ h => h
    case hy117 => exact Or.inl ⟨by rfl, by intro w; go_simp⟩
    try simp only [zpt]
    refine wpAny_take (i := 25) (oi := ?oi118) (v := .bool false) ?hi118 (by kernel_rfl) (by kernel_rfl) (by kernel_rfl) ?hQ118 ?hy118 ?rest118
    case hi118 => simp only [zge]; rfl
    case hQ118 => exact fun _ _ _ h => h
    case hy118 => exact Or.inl ⟨by rfl, by intro w; go_simp⟩
    try simp only [zpt]
    clear eq0
    refine wpAny_done (by kernel_rfl) ?_ _
    obtain ⟨k0, a, b, hk0, hk02, hab, hTa, hTb⟩ : ∃ (k0 : Nat) (a b : Option Nat), bitI r.1 dp = (k0 : Int) ∧ k0 < 2 ∧ [ptr none, ptr none].set k0 (ptr (some g0)) = [ptr a, ptr b] ∧ Tr w a (dp + 1) (Tm.half false dp l) ∧ Tr w b (dp + 1) (Tm.half true dp l) := by
      unfold bitI
      rw [HL.out]
      rw [Tm.half_cons, Tm.half_cons]
      cases Tm.bit r.1 dp
      · exact ⟨0, some g0, none, rfl, by omega, rfl, HT0.out, .none _⟩
      · exact ⟨1, none, some g0, rfl, by omega, rfl, .none _, HT0.out⟩
    have HTA := Lib.hid hTa
    have HTB := Lib.hid hTb
    have HAB := Lib.hid hab
    rw [hk0] at CB0
    clear hTa hTb hab hk0
    have NS := Lib.hid (node_sides BN1.out HRL)
    have PI := Lib.hid (pair_info none none)
    have PO := Lib.hid (pair_one none none)
    have PN : Hid ([Value.pointer none, Value.pointer none].length = [ptr none, ptr none].length) := rfl
    obtain ⟨S0, hS0⟩ : ∃ S, S = [ptr none, ptr none] := ⟨_, rfl⟩
    rw [← hS0] at NS PI PO PN HAB
    have HS0 := Lib.hid hS0
    clear hS0
    have hn1 := Nat.le_refl v107.heap.size
    go_upto_region 4 with (first
      | (with_reducible refine load_law rfl 70 (.tmp 38) rfl g0 33 rfl S0 _ Tryd.underlying70 rfl PI.out NS.out ?_)
      | ((with_reducible refine storeGen_law rfl 70 (.tmp 7) (.tmp 39) rfl v107.heap.size rfl S0 rfl 70 [.pointer none, .pointer none] PI.out PN.out PO.out v107.heap.size v107 ?_ ?_ hn1 ?_)
         · exact Blk.new v107 70 [.pointer none, .pointer none]
         · exact alloc_below v107 _
         intro w2 B2 X2))
    have h12 := X2.out.size
    have h1s := W1.out.size
    have W2 := Lib.hid (W1.out.trans (X2.out.mono h1s))
    have BN2 := Lib.hid (BN1.out.below X2.out BN1.out.lt)
    have BQ2 := Lib.hid (BQ1.out.below X2.out BQ1.out.lt)
    have c32 : w2.cell? ⟨g0, 32, none⟩ = some (.pointer (some ⟨q0, 0, none⟩)) := by rw [BN2.out.cell]; exact NP0.out
    have LR2 := Lib.hid (LR.out w2 BQ2.out)
    clear NS PN X2 BN1 BQ1 LR LP NP0 NP1
    go_upto_region 6 with (first
      | (with_reducible refine load_law rfl 30 (.tmp 50) rfl q0 0 rfl L0 _ Tryd.underlying30 rfl HIR.out LR2.out ?_)
      | (refine (CB0.out w2).mono ?_; rintro e w4 ⟨rfl, hX4⟩; have HX4 := Lib.hid hX4; have c5 : w4.cell? ⟨v107.heap.size, k0, none⟩ = some (.pointer none) := (by rw [(B2.out.below hX4 B2.out.lt).cell, HS0.out]; match k0, hk02 with | 0, _ => rfl | 1, _ => rfl); have f5 : w4.frozen? ⟨v107.heap.size, k0, none⟩ = false := (B2.out.below hX4 B2.out.lt).frozen k0; clear hX4))
    have W4 := Lib.hid (W2.out.trans (HX4.out.mono W2.out.size))
    have B4 := Lib.hid (B2.out.below HX4.out B2.out.lt)
    have W3 : Hid (Below w.heap.size w (w4.setCell ⟨v107.heap.size, k0, none⟩ (ptr (some g0)))) := W4.out.setCell h1s _
    have B3 : Hid (Blk (w4.setCell ⟨v107.heap.size, k0, none⟩ (ptr (some g0))) v107.heap.size 70 [ptr a, ptr b]) := by
      have := B4.out.set_ k0 (ptr (some g0))
      rw [HAB.out] at this
      exact this
    have h13 : v107.heap.size ≤ (w4.setCell ⟨v107.heap.size, k0, none⟩ (ptr (some g0))).heap.size := Nat.le_of_lt B3.out.lt
    change Code.wp _ _ _ _ (w4.setCell ⟨v107.heap.size, k0, none⟩ (ptr (some g0)))
    generalize w4.setCell ⟨v107.heap.size, k0, none⟩ (ptr (some g0)) = w3 at *
    obtain ⟨S2, hS2⟩ : ∃ S, S = [ptr a, ptr b] := ⟨_, rfl⟩
    have HS2 := Lib.hid hS2
    rw [← hS2] at B3
    clear hS2 c32 c5 f5 W4 B4 HX4 W2 B2 BN2 BQ2 LR2 CB0 HIR HT0 h12 HAB HS0 PI PO
    have G3 := Lib.hid (HG1.out.below W3.out HG1.out.lt)
    have Q3 := Lib.hid (HQ1.out.below W3.out HQ1.out.lt)
    have c3g : w3.cell? ⟨g, 32, none⟩ = some (.pointer (some ⟨q, 0, none⟩)) := by rw [G3.out.cell, (nodeL_ptrs (Tm.leaf_length _ _)).1]; rfl
    have QL := Lib.hid (leaf_label Q3.out hp1)
    have HI := Lib.hid (hash_info hp1)
    have CB : Hid (∀ W, Calls Tryd.prog 41 #[hv p.1, .int .i64 (dp : Int)] W fun e w' => e = .returned (.int .i64 (bitI p.1 dp)) ∧ Below W.heap.size W w') := fun W => bit_any hp1 hd W
    unfold hv at CB
    obtain ⟨L3, hL3⟩ : ∃ L, L = p.1.map cellOf := ⟨_, rfl⟩
    rw [← hL3] at QL HI CB
    clear hL3
    obtain ⟨k, x, hk, hk2, hkx, htx, hkb⟩ : ∃ (k : Nat) (x : Option Nat), bitI p.1 dp = (k : Int) ∧ k < 2 ∧ S2[k]? = some (ptr x) ∧ Tr w x (dp + 1) (Tm.half (Tm.bit p.1 dp) dp l) ∧ k = (if Tm.bit p.1 dp then 1 else 0) := by
      rw [HS2.out]
      unfold bitI
      cases Tm.bit p.1 dp
      · exact ⟨0, a, rfl, by omega, rfl, HTA.out, rfl⟩
      · exact ⟨1, b, rfl, by omega, rfl, HTB.out, rfl⟩
    rw [hk] at CB
    clear hk
    have HKX := Lib.hid hkx
    have HKB := Lib.hid hkb
    have HTX := Lib.hid htx
    clear hkx hkb htx
    go_upto_region 7 with (first
      | (with_reducible refine load_law rfl 30 (.tmp 61) rfl q 0 rfl L3 _ Tryd.underlying30 rfl HI.out QL.out ?_)
      | (refine (CB.out w3).mono ?_; rintro e w4 ⟨rfl, hX4⟩))
    have X4 := Lib.hid hX4
    have B4 := Lib.hid (B3.out.below X4.out B3.out.lt)
    have W4 := Lib.hid (W3.out.trans (X4.out.mono W3.out.size))
    have c4 : w4.cell? ⟨v107.heap.size, k, none⟩ = some (ptr x) := by rw [B4.out.cell]; exact HKX.out
    clear hX4 X4 c3g B3 W3
    have hs4 := B4.out.lt
    have h4s := W4.out.size
    have CI : Hid (Calls Tryd.prog 44 #[ptr x, .pointer (some ⟨g, 0, none⟩), .int .i64 ((dp : Int) + 1)] w4 fun e w' => ∃ m, e = .returned (.pointer (some ⟨m, 0, none⟩)) ∧ Tr w' (some m) (dp + 1) (Tm.put p (Tm.half (Tm.bit p.1 dp) dp l)) ∧ Below w4.heap.size w4 w') :=
      IH.out (HG.out.below W4.out HG.out.size) x (dp + 1) _ p g q hfd (HF.out.half _) (HTX.out.low W4.out) (HG1.out.below W4.out HG1.out.lt) (HQ1.out.below W4.out HQ1.out.lt) hp1 hp2 fun r hr i hi => by
        rcases Nat.lt_or_ge i dp with h | h
        · exact HWY.out r (Tm.mem_half.1 hr).1 i h
        · rw [show i = dp by omega, (Tm.mem_half.1 hr).2]
    go_upto_region 8 with (first
      | (go_at_call 44; refine CI.out.mono ?_; rintro e w5 ⟨m, rfl, hT5, hX5⟩; have HT5 := Lib.hid hT5; have HX5 := Lib.hid hX5; clear hT5; have c5 : w5.cell? ⟨v107.heap.size, k, none⟩ = some (ptr x) := (by rw [(B4.out.below hX5 hs4).cell]; exact HKX.out); have f5 : w5.frozen? ⟨v107.heap.size, k, none⟩ = false := (B4.out.below hX5 hs4).frozen k; clear hX5))
    have h45 := HX5.out.size
    have B5 := Lib.hid (B4.out.below HX5.out hs4)
    have W5 := Lib.hid (W4.out.trans (HX5.out.mono h4s))
    have KT : TrK w5 (w5.setCell ⟨v107.heap.size, k, none⟩ (ptr (some m))).drew := (TrK.setCell _ B5.out (by decide) (by decide)).trans (TrK.drew _)
    obtain ⟨a', b', ha', hTa, hTb⟩ : ∃ a' b', S2.set k (ptr (some m)) = [ptr a', ptr b'] ∧ Tr (w5.setCell ⟨v107.heap.size, k, none⟩ (ptr (some m))).drew a' (dp + 1) (Tm.half false dp (Tm.put p l)) ∧ Tr (w5.setCell ⟨v107.heap.size, k, none⟩ (ptr (some m))).drew b' (dp + 1) (Tm.half true dp (Tm.put p l)) := by
      rw [HS2.out, Tm.half_put, Tm.half_put]
      have hT := HT5.out.keep KT
      have ha := (HTA.out.low W5.out).keep KT
      have hb := (HTB.out.low W5.out).keep KT
      have hkk := HKB.out
      cases hbit : Tm.bit p.1 dp
      · rw [hbit] at hT hkk; exact ⟨some m, b, by rw [hkk]; rfl, hT, hb⟩
      · rw [hbit] at hT hkk; exact ⟨a, some m, by rw [hkk]; rfl, ha, hT⟩
    have TA := Lib.hid hTa
    have TB := Lib.hid hTb
    have B6 : Hid (Blk (w5.setCell ⟨v107.heap.size, k, none⟩ (ptr (some m))).drew v107.heap.size 70 [ptr a', ptr b']) := by
      have := (B5.out.set_ k (ptr (some m))).drew
      rw [ha'] at this
      exact this
    have W6 : Hid (Below w.heap.size w (w5.setCell ⟨v107.heap.size, k, none⟩ (ptr (some m))).drew) := (W5.out.setCell h1s _).drew
    refine wp_region_any (by kernel_rfl) ?_
    change wpAny _ _ _ _ _ _ _ (World.drew (w5.setCell ⟨v107.heap.size, k, none⟩ (ptr (some m))))
    generalize (w5.setCell ⟨v107.heap.size, k, none⟩ (ptr (some m))).drew = w6 at *
    obtain ⟨ra, hra⟩ : ∃ r, r = Tm.root (dp + 1) (Tm.half false dp (Tm.put p l)) := ⟨_, rfl⟩
    obtain ⟨rb, hrb⟩ : ∃ r, r = Tm.root (dp + 1) (Tm.half true dp (Tm.put p l)) := ⟨_, rfl⟩
    have hla : ra.length = 32 := by rw [hra]; exact Tm.root_length _ _
    have hlb : rb.length = 32 := by rw [hrb]; exact Tm.root_length _ _
    have HRT : Tm.root dp (Tm.put p l) = Tm.node ra rb := by rw [hra, hrb]; exact Tm.root_more L2 (by omega)
    have CA : Hid (∀ W, Below w6.heap.size w6 W → Calls Tryd.prog 38 #[ptr a'] W fun e w' => e = .returned (hv ra) ∧ Below W.heap.size W w') := fun W hW => by rw [hra]; exact sumAll_of (TA.out.low hW)
    have CBB : Hid (∀ W, Below w6.heap.size w6 W → Calls Tryd.prog 38 #[ptr b'] W fun e w' => e = .returned (hv rb) ∧ Below W.heap.size W w') := fun W hW => by rw [hrb]; exact sumAll_of (TB.out.low hW)
    have CN : Hid (∀ W, Below w6.heap.size w6 W → Calls Tryd.prog 35 #[hv ra, hv rb] W fun e w' => e = .returned (.agg ((Tm.root dp (Tm.put p l)).map cellOf).toArray) ∧ Below W.heap.size W w') := fun W hW => by
      rw [HRT]
      exact tnode_any (HG.out.below (W6.out.trans (hW.mono W6.out.size)) HG.out.size) hla hlb
    have BN2 : Hid (Tryd.prog.built 72 [(0, .agg ((Tm.root dp (Tm.put p l)).map cellOf).toArray), (2, .agg [ptr a', ptr b'].toArray)] = some ((Tm.root dp (Tm.put p l)).map cellOf ++ [ptr none, ptr a', ptr b']).toArray) := builtNode2 (by rw [List.length_map]; exact Tm.root_length _ _) (adr a') (adr b')
    have HNL : Hid ((Tm.root dp (Tm.put p l)).map cellOf ++ [ptr none, ptr a', ptr b'] = nodeL (Tm.root dp (Tm.put p l)) none a' b') := rfl
    obtain ⟨NL, hNL⟩ : ∃ NL, NL = (Tm.root dp (Tm.put p l)).map cellOf ++ [ptr none, ptr a', ptr b'] := ⟨_, rfl⟩
    obtain ⟨D, hD⟩ : ∃ D, D = (Tm.root dp (Tm.put p l)).map cellOf := ⟨_, rfl⟩
    rw [← hNL] at HNL BN2
    rw [← hD] at CN BN2
    have PI2 := Lib.hid (pair_info a' b')
    clear hTa hTb ha' KT HRT hra hrb hla hlb hNL hD c4 c5 f5 HTX HKX HKB HTA HTB B4 B5 W4 W5 HT5 HX5 CI CB IH HWY HF HS2 h45 hs4 h4s
    refine wpAny_take (i := 0) (oi := ?oi119) (v := .pointer (some ⟨v107.heap.size, 0, none⟩)) ?hi119 (by kernel_rfl) (by kernel_rfl) (by kernel_rfl) ?hQ119 ?hy119 ?rest119
    case hi119 => simp only [zge]; rfl
    case hQ119 => exact fun _ _ _ h => h
    case hy119 => exact Or.inl ⟨by rfl, by intro w; go_simp⟩
    try simp only [zpt]
    refine wpAny_take (i := 3) (oi := ?oi120) (v := .pointer (some ⟨v107.heap.size, 1, none⟩)) ?hi120 (by kernel_rfl) (by kernel_rfl) (by kernel_rfl) ?hQ120 ?hy120 ?rest120
    case hi120 => simp only [zge]; rfl
    case hQ120 => exact fun _ _ _ h => h
    case hy120 => exact Or.inl ⟨by rfl, by intro w; go_simp⟩
    try simp only [zpt]
    refine phaseL (fun i => if i = 2 then [1] else if i = 5 then [4, 2] else if i = 6 then [2, 5] else []) (fun d a w' => ∃ x75 x76 x78 x79 x80 x81 : Value, a = { tmps := #[.pointer (some ⟨g0, 0, none⟩), .pointer (some ⟨g, 0, none⟩), .int .i64 (dp : Int), undef, undef, undef, .pointer none, .pointer (some ⟨v107.heap.size, 0, none⟩), .int .i64 (k : Int), .pointer (some ⟨g0, 0, none⟩), .bool false, .bool false, .pointer (some ⟨g0, 0, none⟩), .pointer (some ⟨g0, 0, none⟩), .pointer (some ⟨g0, 32, none⟩), .pointer (some ⟨q0, 0, none⟩), .bool true, .bool true, .pointer (some ⟨g0, 0, none⟩), .pointer (some ⟨g0, 0, none⟩), .pointer (some ⟨g0, 32, none⟩), .pointer (some ⟨q0, 0, none⟩), .pointer (some ⟨q0, 0, none⟩), .pointer (some ⟨q0, 0, none⟩), .agg L0.toArray, .pointer (some ⟨g, 0, none⟩), .pointer (some ⟨g, 0, none⟩), .pointer (some ⟨g, 32, none⟩), .pointer (some ⟨q, 0, none⟩), .pointer (some ⟨q, 0, none⟩), .pointer (some ⟨q, 0, none⟩), .agg L1.toArray, .bool false, .bool false, .bool false, undef, .pointer (some ⟨g0, 0, none⟩), .pointer (some ⟨g0, 0, none⟩), .pointer (some ⟨g0, 33, none⟩), .agg S0.toArray, .pointer (some ⟨g0, 0, none⟩), .pointer (some ⟨g0, 0, none⟩), .pointer (some ⟨g0, 32, none⟩), .pointer (some ⟨q0, 0, none⟩), .bool true, .pointer (some ⟨g0, 0, none⟩), .pointer (some ⟨g0, 0, none⟩), .pointer (some ⟨g0, 32, none⟩), .pointer (some ⟨q0, 0, none⟩), .pointer (some ⟨q0, 0, none⟩), .pointer (some ⟨q0, 0, none⟩), .agg L0.toArray, .int .i64 (dp : Int), .int .i64 (k0 : Int), .pointer (some ⟨g0, 0, none⟩), .pointer (some ⟨v107.heap.size, k0, none⟩), .pointer (some ⟨g, 0, none⟩), .pointer (some ⟨g, 0, none⟩), .pointer (some ⟨g, 32, none⟩), .pointer (some ⟨q, 0, none⟩), .pointer (some ⟨q, 0, none⟩), .pointer (some ⟨q, 0, none⟩), .agg L3.toArray, .int .i64 (dp : Int), .int .i64 (k : Int), .int .i64 (k : Int), .int .i64 (k : Int), .pointer (some ⟨v107.heap.size, k, none⟩), ptr x, .pointer (some ⟨g, 0, none⟩), .int .i64 (dp : Int), .int .i64 ((dp : Int) + 1), ptr (some m), .pointer (some ⟨v107.heap.size, k, none⟩), .pointer (some ⟨v107.heap.size, 0, none⟩), x75, x76, .pointer (some ⟨v107.heap.size, 1, none⟩), x78, x79, x80, x81, undef, undef], defers := [] } ∧ Hid (Below w6.heap.size w6 w') ∧ (d 1 = true → x75 = ptr a') ∧ (d 2 = true → x76 = hv ra) ∧ (d 4 = true → x78 = ptr b') ∧ (d 5 = true → x79 = hv rb) ∧ (d 6 = true → x80 = .agg D.toArray) ∧ (d 7 = true → x81 = .agg [ptr a', ptr b'].toArray)) [1, 2, 4, 5, 6, 7] ?step121 3 6 [1, 2, 4, 5, 6, 7] _ _ _ rfl (by decide) (fun _ h => h) (Fits.of (by kernel_rfl)) ?init121 ?fin121
    case init121 => refine ⟨_, _, _, _, _, _, rfl, Below.refl _ _, ?_, ?_, ?_, ?_, ?_, ?_⟩ <;> (intro h; exact absurd h (by decide))
    case step121 =>
      intro i hi d a v121 hI hdi hdeps
      obtain ⟨x75, x76, x78, x79, x80, x81, rfl, BW, h1, h2, h4, h5, h6, h7⟩ := hI
      have hsw := BW.out.size
      simp only [List.mem_cons, List.not_mem_nil, or_false] at hi
      rcases hi with rfl | rfl | rfl | rfl | rfl | rfl
      · have c0 : v121.cell? ⟨v107.heap.size, 0, none⟩ = some (ptr a') := (B6.out.below BW.out B6.out.lt).cell 0
        refine wpOp_step (o := ?os122) ?hos122 (fun K hK => ?_)
        case hos122 => simp only [zge]; rfl
        go_simp
        refine hK _ _ ?_
        clear hK K
        try simp only [zpt]
        exact ⟨_, _, _, _, _, _, rfl, BW, fun _ => rfl, fun a => by first | exact h2 (by simpa using a) | rfl, fun a => by first | exact h4 (by simpa using a) | rfl, fun a => by first | exact h5 (by simpa using a) | rfl, fun a => by first | exact h6 (by simpa using a) | rfl, fun a => by first | exact h7 (by simpa using a) | rfl⟩
      · obtain rfl := h1 (hdeps 1 (by simp))
        refine wpOp_step (o := ?os123) ?hos123 (fun K hK => ?_)
        case hos123 => simp only [zge]; rfl
        go_simp
        refine (CA.out v121 BW.out).mono ?_
        rintro e u121 ⟨rfl, hX⟩
        refine hK _ _ ?_
        clear hK K
        try simp only [zpt]
        exact ⟨_, _, _, _, _, _, rfl, BW.out.trans (hX.mono hsw), fun a => by first | exact h1 (by simpa using a) | rfl, fun _ => rfl, fun a => by first | exact h4 (by simpa using a) | rfl, fun a => by first | exact h5 (by simpa using a) | rfl, fun a => by first | exact h6 (by simpa using a) | rfl, fun a => by first | exact h7 (by simpa using a) | rfl⟩
      · have c0 : v121.cell? ⟨v107.heap.size, 1, none⟩ = some (ptr b') := (B6.out.below BW.out B6.out.lt).cell 1
        refine wpOp_step (o := ?os124) ?hos124 (fun K hK => ?_)
        case hos124 => simp only [zge]; rfl
        go_simp
        refine hK _ _ ?_
        clear hK K
        try simp only [zpt]
        exact ⟨_, _, _, _, _, _, rfl, BW, fun a => by first | exact h1 (by simpa using a) | rfl, fun a => by first | exact h2 (by simpa using a) | rfl, fun _ => rfl, fun a => by first | exact h5 (by simpa using a) | rfl, fun a => by first | exact h6 (by simpa using a) | rfl, fun a => by first | exact h7 (by simpa using a) | rfl⟩
      · obtain rfl := h4 (hdeps 4 (by simp))
        refine wpOp_step (o := ?os125) ?hos125 (fun K hK => ?_)
        case hos125 => simp only [zge]; rfl
        go_simp
        refine (CBB.out v121 BW.out).mono ?_
        rintro e u121 ⟨rfl, hX⟩
        refine hK _ _ ?_
        clear hK K
        try simp only [zpt]
        exact ⟨_, _, _, _, _, _, rfl, BW.out.trans (hX.mono hsw), fun a => by first | exact h1 (by simpa using a) | rfl, fun a => by first | exact h2 (by simpa using a) | rfl, fun a => by first | exact h4 (by simpa using a) | rfl, fun _ => rfl, fun a => by first | exact h6 (by simpa using a) | rfl, fun a => by first | exact h7 (by simpa using a) | rfl⟩
      · obtain rfl := h2 (hdeps 2 (by simp))
        obtain rfl := h5 (hdeps 5 (by simp))
        refine wpOp_step (o := ?os126) ?hos126 (fun K hK => ?_)
        case hos126 => simp only [zge]; rfl
        go_simp
        refine (CN.out v121 BW.out).mono ?_
        rintro e u121 ⟨rfl, hX⟩
        refine hK _ _ ?_
        clear hK K
        try simp only [zpt]
        exact ⟨_, _, _, _, _, _, rfl, BW.out.trans (hX.mono hsw), fun a => by first | exact h1 (by simpa using a) | rfl, fun a => by first | exact h2 (by simpa using a) | rfl, fun a => by first | exact h4 (by simpa using a) | rfl, fun a => by first | exact h5 (by simpa using a) | rfl, fun _ => rfl, fun a => by first | exact h7 (by simpa using a) | rfl⟩
      · refine wpOp_step (o := ?os127) ?hos127 (fun K hK => ?_)
        case hos127 => simp only [zge]; rfl
        refine step_loadW rfl 70 (.tmp 7) rfl v107.heap.size 0 rfl [ptr a', ptr b'] _ Tryd.underlying70 rfl PI2.out (B6.out.below BW.out B6.out.lt).cells (hK _ _ ?_)
        clear hK K
        try simp only [zpt]
        exact ⟨_, _, _, _, _, _, rfl, BW, fun a => by first | exact h1 (by simpa using a) | rfl, fun a => by first | exact h2 (by simpa using a) | rfl, fun a => by first | exact h4 (by simpa using a) | rfl, fun a => by first | exact h5 (by simpa using a) | rfl, fun a => by first | exact h6 (by simpa using a) | rfl, fun _ => rfl⟩
    case fin121 =>
      intro a v121 hI
      obtain ⟨x75, x76, x78, x79, x80, x81, rfl, BW, h1, h2, h4, h5, h6, h7⟩ := hI
      obtain rfl := h1 (by decide)
      obtain rfl := h2 (by decide)
      obtain rfl := h4 (by decide)
      obtain rfl := h5 (by decide)
      obtain rfl := h6 (by decide)
      obtain rfl := h7 (by decide)
      have W7 := Lib.hid (W6.out.trans (BW.out.mono W6.out.size))
      have TA7 := Lib.hid (TA.out.low BW.out)
      have TB7 := Lib.hid (TB.out.low BW.out)
      have X8 := Lib.hid (alloc_below v121 (.cells NL.toArray 72))
      have B8 := Lib.hid (Blk.new v121 72 NL)
      clear BW TA TB W6 B6 CA CBB CN
      try dsimp only
      refine wpAny_ready (rs := [8]) (by kernel_rfl) (by simp) ?_
      refine AllReady.cons (o := ?p128) ?q128 (fun K hK => ?_) AllReady.nil
      case q128 => simp only [zge]; rfl
      refine step_build rfl 72 #[(0, .tmp 80), (2, .tmp 81)] rfl NL (by simp only [List.map_toArray, List.map_cons, List.map_nil]; exact BN2.out) (hK _ _ ?_)
      clear hK K
      try simp only [zpt]
      refine wpAny_ready (rs := [9]) (by kernel_rfl) (by simp) ?_
      refine AllReady.cons (o := ?p129) ?q129 (fun K hK => ?_) AllReady.nil
      case q129 => simp only [zge]; rfl
      go_simp
      refine hK _ _ ?_
      clear hK K
      try simp only [zpt]
      generalize v121.alloc (.cells NL.toArray 72) = w8 at *
      have W8 := Lib.hid (W7.out.trans (X8.out.mono W7.out.size))
      have TA8 := Lib.hid (TA7.out.low X8.out)
      have TB8 := Lib.hid (TB7.out.low X8.out)
      refine wpAny_take (i := 10) (oi := ?oi130) (v := .pointer (some ⟨v121.heap.size, 0, none⟩)) ?hi130 (by kernel_rfl) (by kernel_rfl) (by kernel_rfl) ?hQ130 ?hy130 ?rest130
      case hi130 => simp only [zge]; rfl
      case hQ130 => exact fun _ _ _ h => h
      case hy130 => exact Or.inl ⟨by rfl, by intro w; go_simp⟩
      try simp only [zpt]
      refine wpAny_done (by kernel_rfl) ?_ _
      go_wp2_with fail
      go_ret
      refine ⟨_, rfl, .more L2 ?_ TA8.out TB8.out, W8.out⟩
      have := B8.out
      rw [HNL.out] at this
      exact this
theorem with_any (f : Nat) : WithC f := by
  induction f with
  | zero =>
    intro w hg n d l p g q hfd hf ht h1 h2 hp1 hp2 hw
    cases ht with
    | none =>
      refine (with_none (w := w) g (d : Int)).mono ?_
      rintro e w' ⟨rfl, hX⟩
      exact ⟨g, rfl, .one (h1.below hX h1.lt) (h2.below hX h2.lt), hX⟩
    | one hn hq =>
      rename_i g0 q0 r
      have hr := (hf.len r (by simp)).1
      have he : r.1 = p.1 := (Tm.bits_eq hp1 hr fun i hi => hw r (by simp) i (by omega)).symm
      refine (with_same hn hq hr h1 h2 hp1 he).mono ?_
      rintro e w' ⟨rfl, hX⟩
      exact ⟨g, rfl, by rw [Tm.put, if_pos he]; exact .one (h1.below hX h1.lt) (h2.below hX h2.lt), hX⟩
    | more hl _ _ _ => have := hf.deep hl; omega
  | succ f ih =>
    intro w hg n d l p g q hfd hf ht h1 h2 hp1 hp2 hw
    cases ht with
    | none =>
      refine (with_none (w := w) g (d : Int)).mono ?_
      rintro e w' ⟨rfl, hX⟩
      exact ⟨g, rfl, .one (h1.below hX h1.lt) (h2.below hX h2.lt), hX⟩
    | one hn hq =>
      rename_i g0 q0 r
      have hr := (hf.len r (by simp)).1
      by_cases he : r.1 = p.1
      · refine (with_same hn hq hr h1 h2 hp1 he).mono ?_
        rintro e w' ⟨rfl, hX⟩
        exact ⟨g, rfl, by rw [Tm.put, if_pos he]; exact .one (h1.below hX h1.lt) (h2.below hX h2.lt), hX⟩
      · exact with_leaf hg hn hq hr h1 h2 hp1 hp2 he rfl hf hw (by omega) f (by omega) ih
    | more hl hn ha hb =>
      rename_i g0 a b
      exact with_more hg hf hl hn ha hb h1 h2 hp1 hp2 hw (hf.deep hl) f (by omega) ih
end Go.Proofs.YtmidbpjdpakkoaaDoor
