/- The contract of the document's Open. -/
import Derived.Test.YtknpngeaodlmhaaDoorAeS
namespace Go.Proofs.YtknpngeaodlmhaaDoor
set_option linter.unusedVariables false
set_option linter.unusedSimpArgs false
open Go.RowKit

/-- What Open gives. -/
def RetO (w : World) (l : List UInt8) (ok : Bool) (e : Ending) (w' : World) : Prop := ∃ A n c, e = .returned (.tuple #[.slice A n c, .bool ok]) ∧ Rd w' A n c l ∧ Below w.heap.size w w'
theorem str_ne {a b : List UInt8} (h : a ≠ b) : ((⟨a.toArray⟩ : ByteArray) == ⟨b.toArray⟩) = false := by
  show (a.toArray == b.toArray) = false
  simpa using h

set_option maxRecDepth 100000 in
set_option maxHeartbeats 8000000 in
theorem ropen_any (key nonce : List UInt8) {w : World} {A A' : Option Addr} {n c n' c' : Nat} {ad cc : List UInt8} (hk : key.length = 32) (hn : nonce.length = 12) (hra : Rd w A n c ad) (hrc : Rd w A' n' c' cc) (hn1 : n ≤ 100000) (hn2 : n' ≤ 100000) :
    Calls Tryd.prog 30 #[.agg (key.map cellOf).toArray, .agg (nonce.map cellOf).toArray, .slice A n c, .slice A' n' c'] w (RetO w (Ae.opened key nonce ad cc) (Ae.opens key nonce ad cc)) := by
  have CX := Lib.hid (fun (W : World) (AX : Option Addr) (nx cx : Nat) (l : List UInt8) (h : Rd W AX nx cx l) (hx : nx ≤ 100000) => rxor_any key nonce 1 h hx hk hn (by omega) (by omega))
  have CM := Lib.hid (fun (W : World) (AX : Option Addr) (nx cx : Nat) (l : List UInt8) (h1 : Rd W A n c ad) (h2 : Rd W AX nx cx l) (hx : nx ≤ 100000) => rmark_any key nonce hk hn h1 h2 hn1 hx)
  obtain ⟨kc, hkc⟩ : ∃ c, c = key.map cellOf := ⟨_, rfl⟩
  obtain ⟨nc, hnc⟩ : ∃ c, c = nonce.map cellOf := ⟨_, rfl⟩
  rw [← hkc, ← hnc] at CX CM
  rw [← hkc, ← hnc]
  have IK : Hid ((Tryd.prog.info? 28).map (·.size) = some kc.length) := by unfold Hid; rw [hkc, List.length_map, hk]; kernel_rfl
  have IN : Hid ((Tryd.prog.info? 30).map (·.size) = some nc.length) := by unfold Hid; rw [hnc, List.length_map, hn]; kernel_rfl
  have HRA := Lib.hid hra
  have HRC := Lib.hid hrc
  have HLC := Lib.hid hrc.len
  have hcap := hrc.cap
  clear hkc hnc hk hn hra hrc
  by_cases h16 : n' < 16
  · have d1 : decide ((n' : Int) - 16 < 0) = true := by simp; omega
    have HOF : Hid (Ae.opens key nonce ad cc = false) := by unfold Hid Ae.opens; rw [HLC.out]; simp; omega
    have HOP : Hid (Ae.opened key nonce ad cc = []) := by unfold Hid Ae.opened; rw [HOF.out]; rfl
    go_enter Tryd.func30, Tryd.ntmps30
    go_upto_region 2 with (fail)
    obtain ⟨w0, hw0⟩ : ∃ w0, w0 = (w.alloc (Obj.cells kc.toArray 28)).alloc (Obj.cells nc.toArray 30) := ⟨_, rfl⟩
    have W0 : Hid (Below w.heap.size w w0.drew) := by unfold Hid; rw [hw0]; exact (((Below.refl _ _).alloc (Nat.le_refl _) _).alloc (by simp) _).drew
    change Code.wp _ _ _ _ ((w.alloc (Obj.cells kc.toArray 28)).alloc (Obj.cells nc.toArray 30))
    rw [← hw0]
    clear hw0
    refine wp_region_any (by kernel_rfl) ?_
    change wpAny _ _ _ _ _ _ _ (World.drew _)
    generalize w0.drew = w5 at *
    refine wpAny_take (i := 0) (oi := ?oi1) (v := .int .i64 ((n' : Int) - 16)) ?hi1 (by kernel_rfl) (by kernel_rfl) (by kernel_rfl) ?hQ1 ?hy1 ?rest1
    case hi1 => simp only [List.getElem?_toArray, List.getElem?_cons_succ, List.getElem?_cons_zero]; rfl
    case hQ1 => exact fun _ _ _ h => h
    case hy1 => exact Or.inl ⟨by rfl, by intro w; go_simp⟩
    try simp only [Act.put, List.setIfInBounds_toArray, List.set_cons_zero, List.set_cons_succ]
    refine wpAny_take (i := 1) (oi := ?oi2) (v := .bool true) ?hi2 (by kernel_rfl) (by kernel_rfl) (by kernel_rfl) ?hQ2 ?hy2 ?rest2
    case hi2 => simp only [List.getElem?_toArray, List.getElem?_cons_succ, List.getElem?_cons_zero]; rfl
    case hQ2 => exact fun _ _ _ h => h
    case hy2 => exact Or.inl ⟨by rfl, by intro w; go_simp⟩
    try simp only [Act.put, List.setIfInBounds_toArray, List.set_cons_zero, List.set_cons_succ]
    refine wpAny_take (i := 2) (oi := ?oi3) (v := .bool true) ?hi3 (by kernel_rfl) (by kernel_rfl) (by kernel_rfl) ?hQ3 ?hy3 ?rest3
    case hi3 => simp only [List.getElem?_toArray, List.getElem?_cons_succ, List.getElem?_cons_zero]; rfl
    case hQ3 => exact fun _ _ _ h => h
    case hy3 => exact Or.inl ⟨by rfl, by intro w; go_simp⟩
    try simp only [Act.put, List.setIfInBounds_toArray, List.set_cons_zero, List.set_cons_succ]
    refine wpAny_take (i := 3) (oi := ?oi4) (v := undef) ?hi4 (by kernel_rfl) (by kernel_rfl) (by kernel_rfl) ?hQ4 ?hy4 ?rest4
    case hi4 => simp only [List.getElem?_toArray, List.getElem?_cons_succ, List.getElem?_cons_zero]; rfl
    case hQ4 => exact fun _ _ _ h => h
    case hy4 => exact Or.inr ⟨by rfl, rfl⟩
    try simp only [Act.put, List.setIfInBounds_toArray, List.set_cons_zero, List.set_cons_succ]
    refine wpAny_take (i := 4) (oi := ?oi5) (v := undef) ?hi5 (by kernel_rfl) (by kernel_rfl) (by kernel_rfl) ?hQ5 ?hy5 ?rest5
    case hi5 => simp only [List.getElem?_toArray, List.getElem?_cons_succ, List.getElem?_cons_zero]; rfl
    case hQ5 => exact fun _ _ _ h => h
    case hy5 => exact Or.inr ⟨by rfl, rfl⟩
    try simp only [Act.put, List.setIfInBounds_toArray, List.set_cons_zero, List.set_cons_succ]
    refine wpAny_take (i := 5) (oi := ?oi6) (v := undef) ?hi6 (by kernel_rfl) (by kernel_rfl) (by kernel_rfl) ?hQ6 ?hy6 ?rest6
    case hi6 => simp only [List.getElem?_toArray, List.getElem?_cons_succ, List.getElem?_cons_zero]; rfl
    case hQ6 => exact fun _ _ _ h => h
    case hy6 => exact Or.inr ⟨by rfl, rfl⟩
    try simp only [Act.put, List.setIfInBounds_toArray, List.set_cons_zero, List.set_cons_succ]
    refine wpAny_take (i := 6) (oi := ?oi7) (v := undef) ?hi7 (by kernel_rfl) (by kernel_rfl) (by kernel_rfl) ?hQ7 ?hy7 ?rest7
    case hi7 => simp only [List.getElem?_toArray, List.getElem?_cons_succ, List.getElem?_cons_zero]; rfl
    case hQ7 => exact fun _ _ _ h => h
    case hy7 => exact Or.inr ⟨by rfl, rfl⟩
    try simp only [Act.put, List.setIfInBounds_toArray, List.set_cons_zero, List.set_cons_succ]
    refine wpAny_take (i := 7) (oi := ?oi8) (v := undef) ?hi8 (by kernel_rfl) (by kernel_rfl) (by kernel_rfl) ?hQ8 ?hy8 ?rest8
    case hi8 => simp only [List.getElem?_toArray, List.getElem?_cons_succ, List.getElem?_cons_zero]; rfl
    case hQ8 => exact fun _ _ _ h => h
    case hy8 => exact Or.inr ⟨by rfl, rfl⟩
    try simp only [Act.put, List.setIfInBounds_toArray, List.set_cons_zero, List.set_cons_succ]
    refine wpAny_take (i := 8) (oi := ?oi9) (v := undef) ?hi9 (by kernel_rfl) (by kernel_rfl) (by kernel_rfl) ?hQ9 ?hy9 ?rest9
    case hi9 => simp only [List.getElem?_toArray, List.getElem?_cons_succ, List.getElem?_cons_zero]; rfl
    case hQ9 => exact fun _ _ _ h => h
    case hy9 => exact Or.inr ⟨by rfl, rfl⟩
    try simp only [Act.put, List.setIfInBounds_toArray, List.set_cons_zero, List.set_cons_succ]
    refine wpAny_take (i := 9) (oi := ?oi10) (v := undef) ?hi10 (by kernel_rfl) (by kernel_rfl) (by kernel_rfl) ?hQ10 ?hy10 ?rest10
    case hi10 => simp only [List.getElem?_toArray, List.getElem?_cons_succ, List.getElem?_cons_zero]; rfl
    case hQ10 => exact fun _ _ _ h => h
    case hy10 => exact Or.inr ⟨by rfl, rfl⟩
    try simp only [Act.put, List.setIfInBounds_toArray, List.set_cons_zero, List.set_cons_succ]
    refine wpAny_take (i := 10) (oi := ?oi11) (v := undef) ?hi11 (by kernel_rfl) (by kernel_rfl) (by kernel_rfl) ?hQ11 ?hy11 ?rest11
    case hi11 => simp only [List.getElem?_toArray, List.getElem?_cons_succ, List.getElem?_cons_zero]; rfl
    case hQ11 => exact fun _ _ _ h => h
    case hy11 => exact Or.inr ⟨by rfl, rfl⟩
    try simp only [Act.put, List.setIfInBounds_toArray, List.set_cons_zero, List.set_cons_succ]
    refine wpAny_take (i := 11) (oi := ?oi12) (v := undef) ?hi12 (by kernel_rfl) (by kernel_rfl) (by kernel_rfl) ?hQ12 ?hy12 ?rest12
    case hi12 => simp only [List.getElem?_toArray, List.getElem?_cons_succ, List.getElem?_cons_zero]; rfl
    case hQ12 => exact fun _ _ _ h => h
    case hy12 => exact Or.inr ⟨by rfl, rfl⟩
    try simp only [Act.put, List.setIfInBounds_toArray, List.set_cons_zero, List.set_cons_succ]
    refine wpAny_take (i := 12) (oi := ?oi13) (v := undef) ?hi13 (by kernel_rfl) (by kernel_rfl) (by kernel_rfl) ?hQ13 ?hy13 ?rest13
    case hi13 => simp only [List.getElem?_toArray, List.getElem?_cons_succ, List.getElem?_cons_zero]; rfl
    case hQ13 => exact fun _ _ _ h => h
    case hy13 => exact Or.inr ⟨by rfl, rfl⟩
    try simp only [Act.put, List.setIfInBounds_toArray, List.set_cons_zero, List.set_cons_succ]
    refine wpAny_take (i := 13) (oi := ?oi14) (v := undef) ?hi14 (by kernel_rfl) (by kernel_rfl) (by kernel_rfl) ?hQ14 ?hy14 ?rest14
    case hi14 => simp only [List.getElem?_toArray, List.getElem?_cons_succ, List.getElem?_cons_zero]; rfl
    case hQ14 => exact fun _ _ _ h => h
    case hy14 => exact Or.inr ⟨by rfl, rfl⟩
    try simp only [Act.put, List.setIfInBounds_toArray, List.set_cons_zero, List.set_cons_succ]
    refine wpAny_take (i := 14) (oi := ?oi15) (v := undef) ?hi15 (by kernel_rfl) (by kernel_rfl) (by kernel_rfl) ?hQ15 ?hy15 ?rest15
    case hi15 => simp only [List.getElem?_toArray, List.getElem?_cons_succ, List.getElem?_cons_zero]; rfl
    case hQ15 => exact fun _ _ _ h => h
    case hy15 => exact Or.inr ⟨by rfl, rfl⟩
    try simp only [Act.put, List.setIfInBounds_toArray, List.set_cons_zero, List.set_cons_succ]
    refine wpAny_take (i := 15) (oi := ?oi16) (v := undef) ?hi16 (by kernel_rfl) (by kernel_rfl) (by kernel_rfl) ?hQ16 ?hy16 ?rest16
    case hi16 => simp only [List.getElem?_toArray, List.getElem?_cons_succ, List.getElem?_cons_zero]; rfl
    case hQ16 => exact fun _ _ _ h => h
    case hy16 => exact Or.inr ⟨by rfl, rfl⟩
    try simp only [Act.put, List.setIfInBounds_toArray, List.set_cons_zero, List.set_cons_succ]
    refine wpAny_take (i := 16) (oi := ?oi17) (v := .bool true) ?hi17 (by kernel_rfl) (by kernel_rfl) (by kernel_rfl) ?hQ17 ?hy17 ?rest17
    case hi17 => simp only [List.getElem?_toArray, List.getElem?_cons_succ, List.getElem?_cons_zero]; rfl
    case hQ17 => exact fun _ _ _ h => h
    case hy17 => exact Or.inl ⟨by rfl, by intro w; go_simp⟩
    try simp only [Act.put, List.setIfInBounds_toArray, List.set_cons_zero, List.set_cons_succ]
    refine wpAny_done (by kernel_rfl) ?_ _
    go_wp2_with fail
    go_ret2
    exact ⟨none, 0, 0, by rw [HOF.out]; rfl, by rw [HOP.out]; exact Rd.nil _ _ _ (by unfold maxLen; omega), W0.out⟩
  · obtain ⟨N, hN⟩ : ∃ N : Nat, N = n' - 16 := ⟨_, rfl⟩
    have e16 : (n' : Int) - 16 = (N : Int) := by omega
    have hNn : N ≤ n' := by omega
    have hN16 : n' - N = 16 := by omega
    have d1 : decide ((N : Int) < 0) = false := decide_eq_false (by omega)
    obtain ⟨fr, hfr⟩ : ∃ l, l = cc.take N := ⟨_, rfl⟩
    obtain ⟨tl, htl⟩ : ∃ l, l = cc.drop N := ⟨_, rfl⟩
    obtain ⟨mk, hmk⟩ : ∃ l, l = Ae.mark key nonce ad fr := ⟨_, rfl⟩
    have HOE : Hid (Ae.opens key nonce ad cc = decide (mk = tl)) := by
      unfold Hid Ae.opens
      rw [HLC.out, ← hN, ← hfr, ← htl, ← hmk, decide_eq_true (show 16 ≤ n' by omega), Bool.true_and]
    have HOX : Hid (Ae.opened key nonce ad cc = if decide (mk = tl) = true then Cha.xor key 1 nonce fr else []) := by
      unfold Hid Ae.opened
      rw [HOE.out, HLC.out, ← hN, ← hfr]
    have RF : Hid (∀ W, Rd W A' n' c' cc → Rd W (cutA A' c' 0) N c' fr) := fun W h => by
      have := h.cut (k := 0) (e := N) (by omega) hNn
      rw [List.drop_zero, Nat.sub_zero, Nat.sub_zero, ← hfr] at this
      exact this
    have RT : Hid (∀ W, Rd W A' n' c' cc → Rd W (cutA A' c' N) 16 (c' - N) tl) := fun W h => by
      have := h.cut (k := N) (e := n') hNn (Nat.le_refl _)
      rw [hN16, List.take_of_length_le (by rw [List.length_drop, HLC.out]; omega), ← htl] at this
      exact this
    have CM2 : Hid (∀ W, Rd W A n c ad → Rd W (cutA A' c' 0) N c' fr → Calls Tryd.prog 50 #[.agg kc.toArray, .agg nc.toArray, .slice A n c, .slice (cutA A' c' 0) N c'] W fun e w' => ∃ g, e = .returned (.slice (some ⟨g, 0, none⟩) 16 16) ∧ Rd w' (some ⟨g, 0, none⟩) 16 16 mk ∧ W.heap.size ≤ g ∧ Below W.heap.size W w') := fun W h1 h2 => by rw [hmk]; exact CM.out W _ _ _ _ h1 h2 (by omega)
    have hcut1 := fun W => slice_h A' n' c' N (by omega) W
    have hcut2 := fun W => slice_l A' n' c' N hNn W
    rw [hN16] at hcut2
    clear hN hfr htl hmk h16 CM
    go_enter Tryd.func30, Tryd.ntmps30
    go_upto_region 2 with (fail)
    obtain ⟨w0, hw0⟩ : ∃ w0, w0 = (w.alloc (Obj.cells kc.toArray 28)).alloc (Obj.cells nc.toArray 30) := ⟨_, rfl⟩
    have B0 : Hid (Blk w0.drew w.heap.size 28 kc) := by unfold Hid; rw [hw0]; exact (Blk.new w _ _).alloc _
    have B1 : Hid (Blk w0.drew (w.heap.size + 1) 30 nc) := by unfold Hid; rw [hw0]; exact Blk.at_new _ _ _ _ _ rfl (by simp)
    have W0 : Hid (Below w.heap.size w w0.drew) := by unfold Hid; rw [hw0]; exact (((Below.refl _ _).alloc (Nat.le_refl _) _).alloc (by simp) _).drew
    change Code.wp _ _ _ _ ((w.alloc (Obj.cells kc.toArray 28)).alloc (Obj.cells nc.toArray 30))
    rw [← hw0]
    clear hw0 e16
    refine wp_region_any (by kernel_rfl) ?_
    change wpAny _ _ _ _ _ _ _ (World.drew _)
    generalize w0.drew = w5 at *
    have RA5 := Lib.hid (HRA.out.below W0.out)
    have RC5 := Lib.hid (HRC.out.below W0.out)
    refine wpAny_take (i := 0) (oi := ?oi18) (v := .int .i64 (N : Int)) ?hi18 (by kernel_rfl) (by kernel_rfl) (by kernel_rfl) ?hQ18 ?hy18 ?rest18
    case hi18 => simp only [List.getElem?_toArray, List.getElem?_cons_succ, List.getElem?_cons_zero]; rfl
    case hQ18 => exact fun _ _ _ h => h
    case hy18 => exact Or.inl ⟨by rfl, by intro w; go_simp⟩
    try simp only [Act.put, List.setIfInBounds_toArray, List.set_cons_zero, List.set_cons_succ]
    refine wpAny_take (i := 1) (oi := ?oi19) (v := .bool false) ?hi19 (by kernel_rfl) (by kernel_rfl) (by kernel_rfl) ?hQ19 ?hy19 ?rest19
    case hi19 => simp only [List.getElem?_toArray, List.getElem?_cons_succ, List.getElem?_cons_zero]; rfl
    case hQ19 => exact fun _ _ _ h => h
    case hy19 => exact Or.inl ⟨by rfl, by intro w; go_simp⟩
    try simp only [Act.put, List.setIfInBounds_toArray, List.set_cons_zero, List.set_cons_succ]
    refine wpAny_take (i := 2) (oi := ?oi20) (v := .bool false) ?hi20 (by kernel_rfl) (by kernel_rfl) (by kernel_rfl) ?hQ20 ?hy20 ?rest20
    case hi20 => simp only [List.getElem?_toArray, List.getElem?_cons_succ, List.getElem?_cons_zero]; rfl
    case hQ20 => exact fun _ _ _ h => h
    case hy20 => exact Or.inl ⟨by rfl, by intro w; go_simp⟩
    try simp only [Act.put, List.setIfInBounds_toArray, List.set_cons_zero, List.set_cons_succ]
    refine wpAny_take (i := 5) (oi := ?oi21) (v := .slice A n c) ?hi21 (by kernel_rfl) (by kernel_rfl) (by kernel_rfl) ?hQ21 ?hy21 ?rest21
    case hi21 => simp only [List.getElem?_toArray, List.getElem?_cons_succ, List.getElem?_cons_zero]; rfl
    case hQ21 => exact fun _ _ _ h => h
    case hy21 => exact Or.inl ⟨by rfl, by intro w; go_simp⟩
    try simp only [Act.put, List.setIfInBounds_toArray, List.set_cons_zero, List.set_cons_succ]
    refine wpAny_take (i := 6) (oi := ?oi22) (v := .slice A' n' c') ?hi22 (by kernel_rfl) (by kernel_rfl) (by kernel_rfl) ?hQ22 ?hy22 ?rest22
    case hi22 => simp only [List.getElem?_toArray, List.getElem?_cons_succ, List.getElem?_cons_zero]; rfl
    case hQ22 => exact fun _ _ _ h => h
    case hy22 => exact Or.inl ⟨by rfl, by intro w; go_simp⟩
    try simp only [Act.put, List.setIfInBounds_toArray, List.set_cons_zero, List.set_cons_succ]
    refine wpAny_take (i := 7) (oi := ?oi23) (v := .int .i64 (N : Int)) ?hi23 (by kernel_rfl) (by kernel_rfl) (by kernel_rfl) ?hQ23 ?hy23 ?rest23
    case hi23 => simp only [List.getElem?_toArray, List.getElem?_cons_succ, List.getElem?_cons_zero]; rfl
    case hQ23 => exact fun _ _ _ h => h
    case hy23 => exact Or.inl ⟨by rfl, by intro w; go_simp⟩
    try simp only [Act.put, List.setIfInBounds_toArray, List.set_cons_zero, List.set_cons_succ]
    refine wpAny_take (i := 8) (oi := ?oi24) (v := .slice (cutA A' c' 0) N c') ?hi24 (by kernel_rfl) (by kernel_rfl) (by kernel_rfl) ?hQ24 ?hy24 ?rest24
    case hi24 => simp only [List.getElem?_toArray, List.getElem?_cons_succ, List.getElem?_cons_zero]; rfl
    case hQ24 => exact fun _ _ _ h => h
    case hy24 => exact Or.inl ⟨by rfl, by intro w; go_simp⟩
    try simp only [Act.put, List.setIfInBounds_toArray, List.set_cons_zero, List.set_cons_succ]
    refine wpAny_take (i := 11) (oi := ?oi25) (v := .slice A' n' c') ?hi25 (by kernel_rfl) (by kernel_rfl) (by kernel_rfl) ?hQ25 ?hy25 ?rest25
    case hi25 => simp only [List.getElem?_toArray, List.getElem?_cons_succ, List.getElem?_cons_zero]; rfl
    case hQ25 => exact fun _ _ _ h => h
    case hy25 => exact Or.inl ⟨by rfl, by intro w; go_simp⟩
    try simp only [Act.put, List.setIfInBounds_toArray, List.set_cons_zero, List.set_cons_succ]
    refine wpAny_take (i := 12) (oi := ?oi26) (v := .int .i64 (N : Int)) ?hi26 (by kernel_rfl) (by kernel_rfl) (by kernel_rfl) ?hQ26 ?hy26 ?rest26
    case hi26 => simp only [List.getElem?_toArray, List.getElem?_cons_succ, List.getElem?_cons_zero]; rfl
    case hQ26 => exact fun _ _ _ h => h
    case hy26 => exact Or.inl ⟨by rfl, by intro w; go_simp⟩
    try simp only [Act.put, List.setIfInBounds_toArray, List.set_cons_zero, List.set_cons_succ]
    refine wpAny_take (i := 13) (oi := ?oi27) (v := .slice (cutA A' c' N) 16 (c' - N)) ?hi27 (by kernel_rfl) (by kernel_rfl) (by kernel_rfl) ?hQ27 ?hy27 ?rest27
    case hi27 => simp only [List.getElem?_toArray, List.getElem?_cons_succ, List.getElem?_cons_zero]; rfl
    case hQ27 => exact fun _ _ _ h => h
    case hy27 => exact Or.inl ⟨by rfl, by intro w; go_simp⟩
    try simp only [Act.put, List.setIfInBounds_toArray, List.set_cons_zero, List.set_cons_succ]
    refine phase (fun i => if i = 9 then [3, 4] else if i = 10 then [9] else []) (fun d a w' => ∃ x17 x18 x23 x24 x28 : Value, a = { tmps := #[.agg kc.toArray, .agg nc.toArray, .slice A n c, .slice A' n' c', .pointer (some ⟨w.heap.size, 0, none⟩), .pointer (some ⟨w.heap.size + 1, 0, none⟩), undef, undef, .slice none 0 0, .bool false, .int .i64 (N : Int), .slice A' n' c', .int .i64 (n' : Int), .int .i64 (N : Int), .int .i64 (N : Int), .bool false, .bool false, x17, x18, .slice A n c, .slice A' n' c', .int .i64 (N : Int), .slice (cutA A' c' 0) N c', x23, x24, .slice A' n' c', .int .i64 (N : Int), .slice (cutA A' c' N) 16 (c' - N), x28, undef, undef, undef, undef, undef, undef, undef, undef], defers := [] } ∧ Hid (Below w5.heap.size w5 w')
      ∧ (d 3 = true → x17 = .agg kc.toArray) ∧ (d 4 = true → x18 = .agg nc.toArray) ∧ (d 9 = true → Hid (∃ g, x23 = .slice (some ⟨g, 0, none⟩) 16 16 ∧ Rd w' (some ⟨g, 0, none⟩) 16 16 mk)) ∧ (d 10 = true → x24 = .string ⟨mk.toArray⟩) ∧ (d 14 = true → x28 = .string ⟨tl.toArray⟩)) [3, 4, 9, 10, 14] ?step 2 5 [3, 4, 9, 10, 14] _ _ _ rfl (by decide) (fun _ h => h) (by kernel_rfl) ?init ?fin
    case init =>
      refine ⟨_, _, _, _, _, rfl, Below.refl _ _, ?_, ?_, ?_, ?_, ?_⟩ <;> (intro h; exact absurd h (by decide))
    case step =>
      intro i hi d a w6 hI hdi hdeps
      obtain ⟨x17, x18, x23, x24, x28, rfl, BW6, h3, h4, h9, h10, h14⟩ := hI
      have hs6 := BW6.out.size
      have H9' : Hid (∀ w7, Below w6.heap.size w6 w7 → (d 9 = true → Hid (∃ g, x23 = .slice (some ⟨g, 0, none⟩) 16 16 ∧ Rd w7 (some ⟨g, 0, none⟩) 16 16 mk))) := fun w7 hX a => by obtain ⟨g, e, hR⟩ := (h9 a).out; exact ⟨g, e, hR.below hX⟩
      simp only [List.mem_cons, List.not_mem_nil, or_false] at hi
      rcases hi with rfl | rfl | rfl | rfl | rfl
      · refine wpOp_step (o := ?os28) ?hos28 (fun K hK => ?_)
        case hos28 => simp only [List.getElem?_toArray, List.getElem?_cons_succ, List.getElem?_cons_zero]; rfl
        refine step_loadW rfl 28 (.tmp 4) rfl w.heap.size 0 rfl kc _ Tryd.underlying28 rfl IK.out (B0.out.below BW6.out B0.out.lt).cells (hK _ _ ?_)
        clear hK K
        try simp only [Act.put, List.setIfInBounds_toArray, List.set_cons_zero, List.set_cons_succ]
        exact ⟨_, x18, x23, x24, x28, rfl, BW6, fun _ => rfl, fun a => h4 (by simpa using a), fun a => h9 (by simpa using a), fun a => h10 (by simpa using a), fun a => h14 (by simpa using a)⟩
      · refine wpOp_step (o := ?os29) ?hos29 (fun K hK => ?_)
        case hos29 => simp only [List.getElem?_toArray, List.getElem?_cons_succ, List.getElem?_cons_zero]; rfl
        refine step_loadW rfl 30 (.tmp 5) rfl (w.heap.size + 1) 0 rfl nc _ Tryd.underlying30 rfl IN.out (B1.out.below BW6.out B1.out.lt).cells (hK _ _ ?_)
        clear hK K
        try simp only [Act.put, List.setIfInBounds_toArray, List.set_cons_zero, List.set_cons_succ]
        exact ⟨x17, _, x23, x24, x28, rfl, BW6, fun a => h3 (by simpa using a), fun _ => rfl, fun a => h9 (by simpa using a), fun a => h10 (by simpa using a), fun a => h14 (by simpa using a)⟩
      · obtain rfl := h3 (hdeps 3 (by simp))
        obtain rfl := h4 (hdeps 4 (by simp))
        refine wpOp_step (o := ?os30) ?hos30 (fun K hK => ?_)
        case hos30 => simp only [List.getElem?_toArray, List.getElem?_cons_succ, List.getElem?_cons_zero]; rfl
        clear h9
        go_simp
        refine (CM2.out w6 (RA5.out.below BW6.out) (RF.out w6 (RC5.out.below BW6.out))).mono ?_
        rintro e w7 ⟨g, rfl, hR, _, hX⟩
        refine hK _ _ ?_
        clear hK K
        try simp only [Act.put, List.setIfInBounds_toArray, List.set_cons_zero, List.set_cons_succ]
        exact ⟨_, _, _, x24, x28, rfl, BW6.out.trans (hX.mono hs6), fun _ => rfl, fun _ => rfl, fun _ => ⟨_, rfl, hR⟩, fun a => h10 (by simpa using a), fun a => h14 (by simpa using a)⟩
      · obtain ⟨g, rfl, hR⟩ := (h9 (hdeps 9 (by simp))).out
        have hcv := conv_bytes hR
        refine wpOp_step (o := ?os31) ?hos31 (fun K hK => ?_)
        case hos31 => simp only [List.getElem?_toArray, List.getElem?_cons_succ, List.getElem?_cons_zero]; rfl
        clear h9
        go_simp
        refine hK _ _ ?_
        clear hK K
        try simp only [Act.put, List.setIfInBounds_toArray, List.set_cons_zero, List.set_cons_succ]
        exact ⟨x17, x18, _, _, x28, rfl, BW6, fun a => h3 (by simpa using a), fun a => h4 (by simpa using a), fun _ => ⟨_, rfl, hR⟩, fun _ => rfl, fun a => h14 (by simpa using a)⟩
      · have hcv := conv_bytes (RT.out w6 (RC5.out.below BW6.out))
        refine wpOp_step (o := ?os32) ?hos32 (fun K hK => ?_)
        case hos32 => simp only [List.getElem?_toArray, List.getElem?_cons_succ, List.getElem?_cons_zero]; rfl
        go_simp
        refine hK _ _ ?_
        clear hK K
        try simp only [Act.put, List.setIfInBounds_toArray, List.set_cons_zero, List.set_cons_succ]
        exact ⟨x17, x18, x23, x24, _, rfl, BW6, fun a => h3 (by simpa using a), fun a => h4 (by simpa using a), fun a => h9 (by simpa using a), fun a => h10 (by simpa using a), fun _ => rfl⟩
    case fin =>
      intro a w6 hI
      obtain ⟨x17, x18, x23, x24, x28, rfl, BW6, h3, h4, h9, h10, h14⟩ := hI
      obtain rfl := h10 (by decide)
      obtain rfl := h14 (by decide)
      have W6 := Lib.hid (W0.out.trans (BW6.out.mono W0.out.size))
      have C0 := Lib.hid (B0.out.below BW6.out B0.out.lt)
      have C1 := Lib.hid (B1.out.below BW6.out B1.out.lt)
      have RC6 := Lib.hid (RC5.out.below BW6.out)
      clear h3 h4 h9 h10 h14 CM2 BW6
      dsimp only
      by_cases hEq : mk = tl
      · have HOT : Hid (Ae.opens key nonce ad cc = true) := by unfold Hid; rw [HOE.out]; simpa using hEq
        have HOP : Hid (Ae.opened key nonce ad cc = Cha.xor key 1 nonce fr) := by unfold Hid; rw [HOX.out, if_pos (by simpa using hEq)]
        subst hEq
        refine wpAny_take (i := 15) (oi := ?oi38) (v := .bool false) ?hi38 (by kernel_rfl) (by kernel_rfl) (by kernel_rfl) ?hQ38 ?hy38 ?rest38
        case hi38 => simp only [List.getElem?_toArray, List.getElem?_cons_succ, List.getElem?_cons_zero]; rfl
        case hQ38 => exact fun _ _ _ h => h
        case hy38 => exact Or.inl ⟨by rfl, by intro w; go_simp⟩
        try simp only [Act.put, List.setIfInBounds_toArray, List.set_cons_zero, List.set_cons_succ]
        refine wpAny_take (i := 16) (oi := ?oi39) (v := .bool false) ?hi39 (by kernel_rfl) (by kernel_rfl) (by kernel_rfl) ?hQ39 ?hy39 ?rest39
        case hi39 => simp only [List.getElem?_toArray, List.getElem?_cons_succ, List.getElem?_cons_zero]; rfl
        case hQ39 => exact fun _ _ _ h => h
        case hy39 => exact Or.inl ⟨by rfl, by intro w; go_simp⟩
        try simp only [Act.put, List.setIfInBounds_toArray, List.set_cons_zero, List.set_cons_succ]
        refine wpAny_done (by kernel_rfl) ?_ _
        go_upto_region 4 with (fail)
        refine wp_region_any (by kernel_rfl) ?_
        change wpAny _ _ _ _ _ _ _ (World.drew _)
        have D0 : Hid (Blk w6.drew w.heap.size 28 kc) := C0.out.drew
        have D1 : Hid (Blk w6.drew (w.heap.size + 1) 30 nc) := C1.out.drew
        have DW : Hid (Below w.heap.size w w6.drew) := W6.out.drew
        have DR : Hid (Rd w6.drew A' n' c' cc) := RC6.out.drew
        clear C0 C1 W6 RC6
        generalize w6.drew = w8 at *
        refine wpAny_take (i := 2) (oi := ?oi40) (v := .slice A' n' c') ?hi40 (by kernel_rfl) (by kernel_rfl) (by kernel_rfl) ?hQ40 ?hy40 ?rest40
        case hi40 => simp only [List.getElem?_toArray, List.getElem?_cons_succ, List.getElem?_cons_zero]; rfl
        case hQ40 => exact fun _ _ _ h => h
        case hy40 => exact Or.inl ⟨by rfl, by intro w; go_simp⟩
        try simp only [Act.put, List.setIfInBounds_toArray, List.set_cons_zero, List.set_cons_succ]
        refine wpAny_take (i := 3) (oi := ?oi41) (v := .int .i64 (N : Int)) ?hi41 (by kernel_rfl) (by kernel_rfl) (by kernel_rfl) ?hQ41 ?hy41 ?rest41
        case hi41 => simp only [List.getElem?_toArray, List.getElem?_cons_succ, List.getElem?_cons_zero]; rfl
        case hQ41 => exact fun _ _ _ h => h
        case hy41 => exact Or.inl ⟨by rfl, by intro w; go_simp⟩
        try simp only [Act.put, List.setIfInBounds_toArray, List.set_cons_zero, List.set_cons_succ]
        refine wpAny_take (i := 4) (oi := ?oi42) (v := .slice (cutA A' c' 0) N c') ?hi42 (by kernel_rfl) (by kernel_rfl) (by kernel_rfl) ?hQ42 ?hy42 ?rest42
        case hi42 => simp only [List.getElem?_toArray, List.getElem?_cons_succ, List.getElem?_cons_zero]; rfl
        case hQ42 => exact fun _ _ _ h => h
        case hy42 => exact Or.inl ⟨by rfl, by intro w; go_simp⟩
        try simp only [Act.put, List.setIfInBounds_toArray, List.set_cons_zero, List.set_cons_succ]
        refine phase (fun i => if i = 5 then [0, 1] else []) (fun d a w' => ∃ x31 x32 x36 : Value, a = { tmps := #[.agg kc.toArray, .agg nc.toArray, .slice A n c, .slice A' n' c', .pointer (some ⟨w.heap.size, 0, none⟩), .pointer (some ⟨w.heap.size + 1, 0, none⟩), undef, undef, .slice none 0 0, .bool false, .int .i64 (N : Int), .slice A' n' c', .int .i64 (n' : Int), .int .i64 (N : Int), .int .i64 (N : Int), .bool false, .bool false, x17, x18, .slice A n c, .slice A' n' c', .int .i64 (N : Int), .slice (cutA A' c' 0) N c', x23, .string ⟨mk.toArray⟩, .slice A' n' c', .int .i64 (N : Int), .slice (cutA A' c' N) 16 (c' - N), .string ⟨mk.toArray⟩, .bool false, .bool false, x31, x32, .slice A' n' c', .int .i64 (N : Int), .slice (cutA A' c' 0) N c', x36], defers := [] } ∧ Hid (Below w8.heap.size w8 w')
          ∧ (d 0 = true → x31 = .agg kc.toArray) ∧ (d 1 = true → x32 = .agg nc.toArray) ∧ (d 5 = true → Hid (∃ AX cx, x36 = .slice AX N cx ∧ Rd w' AX N cx (Cha.xor key 1 nonce fr)))) [0, 1, 5] ?step4 2 3 [0, 1, 5] _ _ _ rfl (by decide) (fun _ h => h) (by kernel_rfl) ?init4 ?fin4
        case init4 =>
          refine ⟨_, _, _, rfl, Below.refl _ _, ?_, ?_, ?_⟩ <;> (intro h; exact absurd h (by decide))
        case step4 =>
          intro i hi d a w9 hI hdi hdeps
          obtain ⟨x31, x32, x36, rfl, BW9, h0, h1, h5⟩ := hI
          have hs9 := BW9.out.size
          simp only [List.mem_cons, List.not_mem_nil, or_false] at hi
          rcases hi with rfl | rfl | rfl
          · refine wpOp_step (o := ?os33) ?hos33 (fun K hK => ?_)
            case hos33 => simp only [List.getElem?_toArray, List.getElem?_cons_succ, List.getElem?_cons_zero]; rfl
            refine step_loadL rfl 28 (.tmp 4) rfl w.heap.size 0 rfl kc _ Tryd.underlying28 rfl IK.out (D0.out.below BW9.out D0.out.lt).cells (hK _ _ ?_)
            clear hK K
            try simp only [Act.put, List.setIfInBounds_toArray, List.set_cons_zero, List.set_cons_succ]
            exact ⟨_, x32, x36, rfl, BW9, fun _ => rfl, fun a => h1 (by simpa using a), fun a => h5 (by simpa using a)⟩
          · refine wpOp_step (o := ?os34) ?hos34 (fun K hK => ?_)
            case hos34 => simp only [List.getElem?_toArray, List.getElem?_cons_succ, List.getElem?_cons_zero]; rfl
            refine step_loadL rfl 30 (.tmp 5) rfl (w.heap.size + 1) 0 rfl nc _ Tryd.underlying30 rfl IN.out (D1.out.below BW9.out D1.out.lt).cells (hK _ _ ?_)
            clear hK K
            try simp only [Act.put, List.setIfInBounds_toArray, List.set_cons_zero, List.set_cons_succ]
            exact ⟨x31, _, x36, rfl, BW9, fun a => h0 (by simpa using a), fun _ => rfl, fun a => h5 (by simpa using a)⟩
          · obtain rfl := h0 (hdeps 0 (by simp))
            obtain rfl := h1 (hdeps 1 (by simp))
            refine wpOp_step (o := ?os35) ?hos35 (fun K hK => ?_)
            case hos35 => simp only [List.getElem?_toArray, List.getElem?_cons_succ, List.getElem?_cons_zero]; rfl
            clear h5
            go_simp
            refine (CX.out w9 _ _ _ _ (RF.out w9 (DR.out.below BW9.out)) (by omega)).mono ?_
            rintro e w10 ⟨AX, cx, rfl, hR, hX⟩
            refine hK _ _ ?_
            clear hK K
            try simp only [Act.put, List.setIfInBounds_toArray, List.set_cons_zero, List.set_cons_succ]
            exact ⟨_, _, _, rfl, BW9.out.trans (hX.mono hs9), fun _ => rfl, fun _ => rfl, fun _ => ⟨_, _, rfl, hR⟩⟩
        case fin4 =>
          intro a w9 hI
          obtain ⟨x31, x32, x36, rfl, BW9, h0, h1, h5⟩ := hI
          obtain ⟨AX, cx, rfl, hR⟩ := (h5 (by decide)).out
          have W9 := Lib.hid (DW.out.trans (BW9.out.mono DW.out.size))
          have HRX := Lib.hid hR
          clear h0 h1 h5 CX BW9 hR
          dsimp only
          refine wpAny_take (i := 6) (oi := ?oi43) (v := .slice AX N cx) ?hi43 (by kernel_rfl) (by kernel_rfl) (by kernel_rfl) ?hQ43 ?hy43 ?rest43
          case hi43 => simp only [List.getElem?_toArray, List.getElem?_cons_succ, List.getElem?_cons_zero]; rfl
          case hQ43 => exact fun _ _ _ h => h
          case hy43 => exact Or.inl ⟨by rfl, by intro w; go_simp⟩
          try simp only [Act.put, List.setIfInBounds_toArray, List.set_cons_zero, List.set_cons_succ]
          refine wpAny_take (i := 7) (oi := ?oi44) (v := .bool true) ?hi44 (by kernel_rfl) (by kernel_rfl) (by kernel_rfl) ?hQ44 ?hy44 ?rest44
          case hi44 => simp only [List.getElem?_toArray, List.getElem?_cons_succ, List.getElem?_cons_zero]; rfl
          case hQ44 => exact fun _ _ _ h => h
          case hy44 => exact Or.inl ⟨by rfl, by intro w; go_simp⟩
          try simp only [Act.put, List.setIfInBounds_toArray, List.set_cons_zero, List.set_cons_succ]
          refine wpAny_done (by kernel_rfl) ?_ _
          go_wp2_with fail
          go_ret2
          exact ⟨AX, N, cx, by rw [HOT.out]; rfl, by rw [HOP.out]; exact HRX.out, W9.out⟩
      · have HOF : Hid (Ae.opens key nonce ad cc = false) := by unfold Hid; rw [HOE.out]; simpa using hEq
        have HOP : Hid (Ae.opened key nonce ad cc = []) := by unfold Hid; rw [HOX.out, if_neg (by simpa using hEq)]
        refine wpAny_take (i := 15) (oi := ?oi36) (v := .bool true) ?hi36 (by kernel_rfl) (by kernel_rfl) (by kernel_rfl) ?hQ36 ?hy36 ?rest36
        case hi36 => simp only [List.getElem?_toArray, List.getElem?_cons_succ, List.getElem?_cons_zero]; rfl
        case hQ36 => exact fun _ _ _ h => h
        case hy36 => exact Or.inl ⟨by rfl, by intro w; go_simp⟩
        try simp only [Act.put, List.setIfInBounds_toArray, List.set_cons_zero, List.set_cons_succ]
        refine wpAny_take (i := 16) (oi := ?oi37) (v := .bool true) ?hi37 (by kernel_rfl) (by kernel_rfl) (by kernel_rfl) ?hQ37 ?hy37 ?rest37
        case hi37 => simp only [List.getElem?_toArray, List.getElem?_cons_succ, List.getElem?_cons_zero]; rfl
        case hQ37 => exact fun _ _ _ h => h
        case hy37 => exact Or.inl ⟨by rfl, by intro w; go_simp⟩
        try simp only [Act.put, List.setIfInBounds_toArray, List.set_cons_zero, List.set_cons_succ]
        refine wpAny_done (by kernel_rfl) ?_ _
        go_wp2_with fail
        go_ret2
        exact ⟨none, 0, 0, by rw [HOF.out]; rfl, by rw [HOP.out]; exact Rd.nil _ _ _ (by unfold maxLen; omega), W6.out⟩
end Go.Proofs.YtknpngeaodlmhaaDoor
