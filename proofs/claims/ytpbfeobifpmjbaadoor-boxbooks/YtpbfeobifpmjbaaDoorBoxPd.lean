/- The landed box: a book's seal and open. -/
import Derived.Test.YtpbfeobifpmjbaaDoorBoxPc
namespace Go.Proofs.YtpbfeobifpmjbaaDoor
set_option linter.unusedVariables false
set_option linter.unusedSimpArgs false
set_option maxRecDepth 100000
open Go.RowKit

theorem Nw.slice {w : World} {b : Nat} {x : Value} {l : List UInt8} (h : Nw w b x l) {k : Nat} (hk : l.length = k) : ∃ A c, x = .slice A k c ∧ Rd w A k c l ∧ ∀ y, A = some y → 0 < k → b ≤ y.block := h.rd hk

set_option maxRecDepth 100000 in
set_option maxHeartbeats 4000000 in
theorem bseal_any {w : World} {k t r1 : Nat} {m2 m3 : Value} {s : Int} {a : Nat} {ES : List (Value × Value)} {A A' : Option Addr} {n c n' c' : Nat} {ad b : List UInt8} (key : List UInt8) (num : Int) (hG : Gl w) (h2t : 2 ≤ t) (hk : Blk w k 65 [.pointer (some ⟨t, 0, none⟩), .map (some r1), m2, m3]) (hT : TapeAt w t s a) (hM : MapIs 79 w r1 ES) (h32 : key.length = 32) (hn0 : -9223372036854775808 ≤ num) (hn1 : num ≤ 9223372036854775807) (hra : Rd w A n c ad) (hrb : Rd w A' n' c' b)
    (hoa : ∀ x : Addr, A = some x → 0 < n → x.block ≠ t) (hob : ∀ x : Addr, A' = some x → 0 < n' → x.block ≠ t) (hnb : n' ≤ 3000) (ha : a ≤ 1000000) (hkt : k ≠ t) (htr : t ≠ r1) (hkr : k ≠ r1) :
    Calls Tryd.prog 23 #[.pointer (some ⟨k, 0, none⟩), .agg (key.map cellOf).toArray, .int .i64 num, .slice A n c, .slice A' n' c'] w fun e w' => ∃ A3 c3 A4 c4 E', e = .returned (.slice A3 (n' + 16) c3) ∧ Rd w' A3 (n' + 16) c3 (Tap.tape s a (n' + 16)) ∧ (∀ x : Addr, A3 = some x → w.heap.size ≤ x.block) ∧ Rd w' A4 n' c4 b ∧ (∀ x : Addr, A4 = some x → 0 < n' → w.heap.size ≤ x.block) ∧ (∀ x y : Addr, A3 = some x → A4 = some y → 0 < n' → x.block ≠ y.block) ∧ TapeAt w' t s (a + (n' + 16)) ∧ MapIs 79 w' r1 E' ∧ (∀ p, p ∈ E' ↔ p = (lkKey key num ad (Tap.tape s a (n' + 16)), .slice A4 n' c4) ∨ (p ∈ ES ∧ p.1 ≠ lkKey key num ad (Tap.tape s a (n' + 16)))) ∧ Fr (fun b => b = t ∨ b = r1) w w' := by
  have HG := Lib.hid hG
  have HKB := Lib.hid hk
  have HT := Lib.hid hT
  have HM := Lib.hid hM
  have HRA := Lib.hid hra
  have HRB := Lib.hid hrb
  have LB := Lib.hid hrb.len
  have HOA := Lib.hid hoa
  have HOB := Lib.hid hob
  have hkl := hk.lt
  have htl := hT.blk.lt
  have hrl := hM.lt
  obtain ⟨m, hm⟩ : ∃ m, m = n' + 16 := ⟨_, rfl⟩
  rw [← hm]
  have e16 : (n' : Int) + 16 = (m : Int) := by omega
  have hm4 : m ≤ 4000 := by omega
  have hm0 : 0 < m := by omega
  have d0 : decide ((3000 : Int) < (n' : Int)) = false := decide_eq_false (by omega)
  obtain ⟨out, hout⟩ : ∃ l, l = Tap.tape s a m := ⟨_, rfl⟩
  rw [← hout]
  have LO : Hid (out.length = m) := by unfold Hid; rw [hout, Tap.tape_length]
  have CN : Hid (∀ W, Gl W → TapeAt W t s a → Calls Tryd.prog 38 #[.pointer (some ⟨t, 0, none⟩), .int .i64 (m : Int)] W fun e w' => ∃ A c, e = .returned (.slice A m c) ∧ Rd w' A m c out ∧ TapeAt w' t s (a + m) ∧ W.grownBy w' (some t) ∧ (∀ ad, A = some ad → W.heap.size ≤ ad.block)) := fun W h1 h2 => by
    rw [hout]
    exact tnext_any m h1 h2t h2 hm4 ha
  obtain ⟨x, hx⟩ : ∃ x, x = lkKey key num ad out := ⟨_, rfl⟩
  have HK : Hid (∃ l, keyOf Tryd.prog 79 x = some l) := by
    unfold Hid
    rw [hx]
    exact keyL h32 hn0 hn1 (by rw [hra.len]; exact Nat.le_trans hra.cap hra.max) (by have := LO.out; unfold maxLen; omega)
  obtain ⟨kc, hkc⟩ : ∃ kc, kc = key.map cellOf := ⟨_, rfl⟩
  obtain ⟨cs, hcs⟩ : ∃ cs, cs = kc ++ [Value.int .i64 num, .string ⟨ad.toArray⟩, .string ⟨out.toArray⟩] := ⟨_, rfl⟩
  have HCS : Hid (x = .agg cs.toArray) := by unfold Hid; rw [hx, hcs, hkc]; rfl
  have K32 : kc.length = 32 := by rw [hkc, List.length_map, h32]
  have HBL : Hid (Tryd.prog.built 79 [(0, .agg kc.toArray), (1, .int .i64 num), (2, .string ⟨ad.toArray⟩), (3, .string ⟨out.toArray⟩)] = some cs.toArray) := by unfold Hid; rw [hcs]; exact builtL K32 _ _ _
  have IK : Hid ((Tryd.prog.info? 34).map (·.size) = some kc.length) := by unfold Hid; rw [K32]; kernel_rfl
  rw [← hx, ← hkc]
  clear hG hk hT hM hra hrb hoa hob hm hout hx hkc hcs K32 h32
  go_enter Tryd.func23, Tryd.ntmps23
  go_upto_region 1 with (fail)
  obtain ⟨w0, hw0⟩ : ∃ w0, w0 = w.alloc (Obj.cells kc.toArray 34) := ⟨_, rfl⟩
  have B0 : Hid (Blk w0 w.heap.size 34 kc) := by unfold Hid; rw [hw0]; exact Blk.new w _ _
  have W0 : Hid (Below w.heap.size w w0) := by unfold Hid; rw [hw0]; exact alloc_below w _
  have hs0 : w.heap.size + 1 ≤ w0.heap.size := by rw [hw0]; simp
  change Code.wp _ _ _ _ (w.alloc (Obj.cells kc.toArray 34))
  rw [← hw0]
  clear hw0
  obtain ⟨g, hg⟩ : ∃ g, g = w.heap.size := ⟨_, rfl⟩
  rw [← hg] at B0
  rw [← hg]
  have hg1 : w.heap.size ≤ g := by omega
  have hg2 := B0.out.lt
  clear hg
  have c0 : w0.cell? ⟨k, 0, none⟩ = some (.pointer (some ⟨t, 0, none⟩)) := (HKB.out.below W0.out hkl).cell 0
  have T0 : Hid (TapeAt w0 t s a) := ⟨HT.out.blk.below W0.out htl, HT.out.lo, HT.out.hi⟩
  go_wp2_with fail
  refine (CN.out w0 (HG.out.below W0.out HG.out.size) T0.out).mono ?_
  rintro e w1 ⟨A3, c3, rfl, hR, hT2, hO, hF⟩
  have hs1 := hO.size
  have ht0 : t < w0.heap.size := T0.out.blk.lt
  have B1 : Hid (Blk w1 g 34 kc) := (hO.block _ B0.out.lt (fun e => by injection e with e; omega)).trans B0.out
  have K1 : Hid (Blk w1 k 65 [.pointer (some ⟨t, 0, none⟩), .map (some r1), m2, m3]) := (hO.block _ (by omega) (fun e => by injection e with e; omega)).trans (HKB.out.below W0.out hkl)
  have M1 : Hid (MapIs 79 w1 r1 ES) := HM.out.keep ((hO.block r1 (by omega) (fun e => htr (by injection e with e; exact e.symm))).trans (W0.out.block r1 hrl))
  have RA : Hid (Rd w1 A n c ad) := (HRA.out.below W0.out).grown hO (fun h0 x hx => HOA.out x hx h0)
  have RB : Hid (Rd w1 A' n' c' b) := (HRB.out.below W0.out).grown hO (fun h0 x hx => HOB.out x hx h0)
  have RC := Lib.hid hR
  have T1 := Lib.hid hT2
  have F3 : Hid (∀ x : Addr, A3 = some x → w0.heap.size ≤ x.block) := hF
  have IN3 := Lib.hid (hR.in_ hm0)
  have F1 : Hid (Fr (fun b => b = t ∨ b = r1) w w1) := (Fr.of_below W0.out).trans (Fr.of_only hO (.inl rfl))
  clear hR hT2 hO hF B0 T0 c0 CN HKB HT HM HRA HRB HOA HOB
  go_upto_region 4 with (fail)
  refine wp_region_any (by kernel_rfl) ?_
  change wpAny _ _ _ _ _ _ _ (World.drew _)
  replace B1 := Lib.hid B1.out.drew
  replace K1 := Lib.hid K1.out.drew
  replace M1 : Hid (MapIs 79 w1.drew r1 ES) := M1.out.keep rfl
  replace RA := Lib.hid RA.out.drew
  replace RB := Lib.hid RB.out.drew
  replace RC := Lib.hid RC.out.drew
  replace T1 : Hid (TapeAt w1.drew t s (a + m)) := ⟨T1.out.blk.drew, T1.out.lo, T1.out.hi⟩
  replace F1 : Hid (Fr (fun b => b = t ∨ b = r1) w w1.drew) := ⟨F1.out.os, F1.out.tape, F1.out.output, F1.out.size, F1.out.block⟩
  replace IN3 : Hid (∀ x : Addr, A3 = some x → x.block < w1.drew.heap.size) := IN3.out
  replace hs1 : w0.heap.size ≤ w1.drew.heap.size := hs1
  generalize w1.drew = w2 at *
  refine wpAny_take (i := 0) (oi := ?oi1) (v := .pointer (some ⟨k, 0, none⟩)) ?hi1 (by kernel_rfl) (by kernel_rfl) (by kernel_rfl) ?hQ1 ?hy1 ?rest1
  case hi1 => simp only [List.getElem?_toArray, List.getElem?_cons_succ, List.getElem?_cons_zero]; rfl
  case hQ1 => exact fun _ _ _ h => h
  case hy1 => exact Or.inl ⟨by rfl, by intro w; go_simp⟩
  try simp only [Act.put, List.setIfInBounds_toArray, List.set_cons_zero, List.set_cons_succ]
  refine wpAny_take (i := 1) (oi := ?oi2) (v := .pointer (some ⟨k, 0, none⟩)) ?hi2 (by kernel_rfl) (by kernel_rfl) (by kernel_rfl) ?hQ2 ?hy2 ?rest2
  case hi2 => simp only [List.getElem?_toArray, List.getElem?_cons_succ, List.getElem?_cons_zero]; rfl
  case hQ2 => exact fun _ _ _ h => h
  case hy2 => exact Or.inl ⟨by rfl, by intro w; go_simp⟩
  try simp only [Act.put, List.setIfInBounds_toArray, List.set_cons_zero, List.set_cons_succ]
  refine wpAny_take (i := 2) (oi := ?oi3) (v := .pointer (some ⟨k, 1, none⟩)) ?hi3 (by kernel_rfl) (by kernel_rfl) (by kernel_rfl) ?hQ3 ?hy3 ?rest3
  case hi3 => simp only [List.getElem?_toArray, List.getElem?_cons_succ, List.getElem?_cons_zero]; rfl
  case hQ3 => exact fun _ _ _ h => h
  case hy3 => exact Or.inl ⟨by rfl, by intro w; go_simp⟩
  try simp only [Act.put, List.setIfInBounds_toArray, List.set_cons_zero, List.set_cons_succ]
  refine wpAny_take (i := 5) (oi := ?oi4) (v := .int .i64 num) ?hi4 (by kernel_rfl) (by kernel_rfl) (by kernel_rfl) ?hQ4 ?hy4 ?rest4
  case hi4 => simp only [List.getElem?_toArray, List.getElem?_cons_succ, List.getElem?_cons_zero]; rfl
  case hQ4 => exact fun _ _ _ h => h
  case hy4 => exact Or.inl ⟨by rfl, by intro w; go_simp⟩
  try simp only [Act.put, List.setIfInBounds_toArray, List.set_cons_zero, List.set_cons_succ]
  refine wpAny_take (i := 6) (oi := ?oi5) (v := .slice A n c) ?hi5 (by kernel_rfl) (by kernel_rfl) (by kernel_rfl) ?hQ5 ?hy5 ?rest5
  case hi5 => simp only [List.getElem?_toArray, List.getElem?_cons_succ, List.getElem?_cons_zero]; rfl
  case hQ5 => exact fun _ _ _ h => h
  case hy5 => exact Or.inl ⟨by rfl, by intro w; go_simp⟩
  try simp only [Act.put, List.setIfInBounds_toArray, List.set_cons_zero, List.set_cons_succ]
  refine wpAny_take (i := 8) (oi := ?oi6) (v := .slice A3 m c3) ?hi6 (by kernel_rfl) (by kernel_rfl) (by kernel_rfl) ?hQ6 ?hy6 ?rest6
  case hi6 => simp only [List.getElem?_toArray, List.getElem?_cons_succ, List.getElem?_cons_zero]; rfl
  case hQ6 => exact fun _ _ _ h => h
  case hy6 => exact Or.inl ⟨by rfl, by intro w; go_simp⟩
  try simp only [Act.put, List.setIfInBounds_toArray, List.set_cons_zero, List.set_cons_succ]
  refine wpAny_take (i := 11) (oi := ?oi7) (v := .slice A' n' c') ?hi7 (by kernel_rfl) (by kernel_rfl) (by kernel_rfl) ?hQ7 ?hy7 ?rest7
  case hi7 => simp only [List.getElem?_toArray, List.getElem?_cons_succ, List.getElem?_cons_zero]; rfl
  case hQ7 => exact fun _ _ _ h => h
  case hy7 => exact Or.inl ⟨by rfl, by intro w; go_simp⟩
  try simp only [Act.put, List.setIfInBounds_toArray, List.set_cons_zero, List.set_cons_succ]
  refine phaseL (fun i => if i = 10 then [4, 7, 9] else []) (fun d a w' => ∃ x26 x27 x30 x32 x33 x35 : Value, a = { tmps := #[.pointer (some ⟨k, 0, none⟩), .agg kc.toArray, .int .i64 num, .slice A n c, .slice A' n' c', undef, .pointer (some ⟨g, 0, none⟩), undef, undef, undef, .slice none 0 0, .slice A3 m c3, .slice A' n' c', .int .i64 (n' : Int), .bool false, .pointer (some ⟨k, 0, none⟩), .pointer (some ⟨k, 0, none⟩), .pointer (some ⟨k, 0, none⟩), .pointer (some ⟨t, 0, none⟩), .slice A' n' c', .int .i64 (n' : Int), .int .i64 (m : Int), .slice A3 m c3, .pointer (some ⟨k, 0, none⟩), .pointer (some ⟨k, 0, none⟩), .pointer (some ⟨k, 1, none⟩), x26, x27, .int .i64 num, .slice A n c, x30, .slice A3 m c3, x32, x33, .slice A' n' c', x35, undef], defers := [] } ∧ Hid (Below w2.heap.size w2 w') ∧ (d 3 = true → x26 = .map (some r1)) ∧ (d 4 = true → x27 = .agg kc.toArray) ∧ (d 7 = true → x30 = .string ⟨ad.toArray⟩) ∧ (d 9 = true → x32 = .string ⟨out.toArray⟩) ∧ (d 10 = true → x33 = .agg cs.toArray) ∧ (d 12 = true → Hid (Nw w' w2.heap.size x35 b))) [3, 4, 7, 9, 10, 12] ?step8 1 6 [3, 4, 7, 9, 10, 12] _ _ _ rfl (by decide) (fun _ h => h) (Fits.of (by kernel_rfl)) ?init8 ?fin8
  case init8 => refine ⟨_, _, _, _, _, _, rfl, Below.refl _ _, ?_, ?_, ?_, ?_, ?_, ?_⟩ <;> (intro h; exact absurd h (by decide))
  case step8 =>
    intro i hi d a v8 hI hdi hdeps
    obtain ⟨x26, x27, x30, x32, x33, x35, rfl, BW, h3, h4, h7, h9, h10, h12⟩ := hI
    have hsw := BW.out.size
    simp only [List.mem_cons, List.not_mem_nil, or_false] at hi
    rcases hi with rfl | rfl | rfl | rfl | rfl | rfl
    · have c0 : v8.cell? ⟨k, 1, none⟩ = some (.map (some r1)) := (K1.out.below BW.out K1.out.lt).cell 1
      refine wpOp_step (o := ?os9) ?hos9 (fun K hK => ?_)
      case hos9 => simp only [List.getElem?_toArray, List.getElem?_cons_succ, List.getElem?_cons_zero]; rfl
      go_simp
      refine hK _ _ ?_
      clear hK K
      try simp only [Act.put, List.setIfInBounds_toArray, List.set_cons_zero, List.set_cons_succ]
      exact ⟨_, _, _, _, _, _, rfl, BW, fun _ => rfl, fun a => by first | exact h4 (by simpa using a) | rfl, fun a => by first | exact h7 (by simpa using a) | rfl, fun a => by first | exact h9 (by simpa using a) | rfl, fun a => by first | exact h10 (by simpa using a) | rfl, fun a => h12 (by simpa using a)⟩
    · refine wpOp_step (o := ?os10) ?hos10 (fun K hK => ?_)
      case hos10 => simp only [List.getElem?_toArray, List.getElem?_cons_succ, List.getElem?_cons_zero]; rfl
      refine step_loadW rfl 34 (.tmp 6) rfl g 0 rfl kc _ Tryd.underlying34 rfl IK.out (B1.out.below BW.out B1.out.lt).cells (hK _ _ ?_)
      clear hK K
      try simp only [Act.put, List.setIfInBounds_toArray, List.set_cons_zero, List.set_cons_succ]
      exact ⟨_, _, _, _, _, _, rfl, BW, fun a => by first | exact h3 (by simpa using a) | rfl, fun _ => rfl, fun a => by first | exact h7 (by simpa using a) | rfl, fun a => by first | exact h9 (by simpa using a) | rfl, fun a => by first | exact h10 (by simpa using a) | rfl, fun a => h12 (by simpa using a)⟩
    · have hcv := conv_bytes (RA.out.below BW.out)
      refine wpOp_step (o := ?os11) ?hos11 (fun K hK => ?_)
      case hos11 => simp only [List.getElem?_toArray, List.getElem?_cons_succ, List.getElem?_cons_zero]; rfl
      go_simp
      refine hK _ _ ?_
      clear hK K
      try simp only [Act.put, List.setIfInBounds_toArray, List.set_cons_zero, List.set_cons_succ]
      exact ⟨_, _, _, _, _, _, rfl, BW, fun a => by first | exact h3 (by simpa using a) | rfl, fun a => by first | exact h4 (by simpa using a) | rfl, fun _ => rfl, fun a => by first | exact h9 (by simpa using a) | rfl, fun a => by first | exact h10 (by simpa using a) | rfl, fun a => h12 (by simpa using a)⟩
    · have hcv := conv_bytes (RC.out.below BW.out)
      refine wpOp_step (o := ?os12) ?hos12 (fun K hK => ?_)
      case hos12 => simp only [List.getElem?_toArray, List.getElem?_cons_succ, List.getElem?_cons_zero]; rfl
      go_simp
      refine hK _ _ ?_
      clear hK K
      try simp only [Act.put, List.setIfInBounds_toArray, List.set_cons_zero, List.set_cons_succ]
      exact ⟨_, _, _, _, _, _, rfl, BW, fun a => by first | exact h3 (by simpa using a) | rfl, fun a => by first | exact h4 (by simpa using a) | rfl, fun a => by first | exact h7 (by simpa using a) | rfl, fun _ => rfl, fun a => by first | exact h10 (by simpa using a) | rfl, fun a => h12 (by simpa using a)⟩
    · obtain rfl := h4 (hdeps 4 (by simp))
      obtain rfl := h7 (hdeps 7 (by simp))
      obtain rfl := h9 (hdeps 9 (by simp))
      refine wpOp_step (o := ?os13) ?hos13 (fun K hK => ?_)
      case hos13 => simp only [List.getElem?_toArray, List.getElem?_cons_succ, List.getElem?_cons_zero]; rfl
      refine step_build rfl 79 #[(0, .tmp 27), (1, .tmp 28), (2, .tmp 30), (3, .tmp 32)] rfl cs (by simp only [List.map_toArray, List.map_cons, List.map_nil]; exact HBL.out) (hK _ _ ?_)
      clear hK K
      try simp only [Act.put, List.setIfInBounds_toArray, List.set_cons_zero, List.set_cons_succ]
      exact ⟨_, _, _, _, _, _, rfl, BW, fun a => by first | exact h3 (by simpa using a) | rfl, fun a => by first | exact h4 (by simpa using a) | rfl, fun a => by first | exact h7 (by simpa using a) | rfl, fun a => by first | exact h9 (by simpa using a) | rfl, fun _ => rfl, fun a => h12 (by simpa using a)⟩
    · refine wpOp_step (o := ?os14) ?hos14 (fun K hK => ?_)
      case hos14 => simp only [List.getElem?_toArray, List.getElem?_cons_succ, List.getElem?_cons_zero]; rfl
      go_simp
      refine (bclone_any (RB.out.below BW.out) (by omega)).mono ?_
      rintro e u8 ⟨AX, cX, rfl, hR, hX, hF⟩
      refine hK _ _ ?_
      clear hK K
      try simp only [Act.put, List.setIfInBounds_toArray, List.set_cons_zero, List.set_cons_succ]
      exact ⟨_, _, _, _, _, _, rfl, BW.out.trans (hX.mono hsw), fun a => by first | exact h3 (by simpa using a) | rfl, fun a => by first | exact h4 (by simpa using a) | rfl, fun a => by first | exact h7 (by simpa using a) | rfl, fun a => by first | exact h9 (by simpa using a) | rfl, fun a => by first | exact h10 (by simpa using a) | rfl, fun _ => Nw.of hR hF hsw⟩
  case fin8 =>
    intro a v8 hI
    obtain ⟨x26, x27, x30, x32, x33, x35, rfl, BW, h3, h4, h7, h9, h10, h12⟩ := hI
    obtain rfl := h3 (by decide)
    obtain rfl := h4 (by decide)
    obtain rfl := h7 (by decide)
    obtain rfl := h9 (by decide)
    obtain rfl := h10 (by decide)
    obtain ⟨A4, c4, rfl, hR4, hF4⟩ := (h12 (by decide)).out.slice LB.out
    obtain ⟨w5, E', hup, hM5, hE5, o1, o2, o3, o4, o5⟩ := (M1.out.keep (BW.out.block r1 M1.out.lt)).put lawL Tryd.underlying62 HK.out (.slice A4 n' c4)
    rw [HCS.out] at hup
    have hsB := BW.out.size
    have F5 : Hid (Fr (fun b => b = t ∨ b = r1) w w5) := (F1.out.cut BW.out F1.out.size).trans ⟨o1, o2, o3, by omega, fun i hi hn => o5 i (fun e => hn (.inr e))⟩
    have T5 : Hid (TapeAt w5 t s (a + m)) := ⟨(o5 _ htr).trans (T1.out.blk.below BW.out T1.out.blk.lt), T1.out.lo, T1.out.hi⟩
    have R4 : Hid (Rd w5 A4 n' c4 b) := hR4.keep (by omega) (fun bb off e h0 hlt => o5 bb (by have h1 := hF4 _ e h0; have h2 := M1.out.lt; simp only at h1; omega))
    have R3 : Hid (Rd w5 A3 m c3 out) := (RC.out.below BW.out).keep (by omega) (fun bb off e h0 hlt => o5 bb (by have h1 := F3.out _ e; simp only at h1; omega))
    have N4 := Lib.hid hF4
    have M5 := Lib.hid hM5
    have H5 := Lib.hid hE5
    clear h12 h3 h4 h7 h9 h10 hR4 hF4 hM5 hE5 T1 F1 RC RA RB K1 B1
    try dsimp only
    refine wpAny_ready (rs := [13]) (by kernel_rfl) (by simp) ?_
    refine AllReady.cons (o := ?p15) ?q15 (fun K hK => ?_) AllReady.nil
    case q15 => simp only [List.getElem?_toArray, List.getElem?_cons_succ, List.getElem?_cons_zero]; rfl
    go_simp
    refine hK _ _ ?_
    clear hK K
    try simp only [Act.put, List.setIfInBounds_toArray, List.set_cons_zero, List.set_cons_succ]
    refine wpAny_done (by kernel_rfl) ?_ _
    clear hup
    go_wp2_with fail
    go_ret
    refine ⟨A3, c3, A4, c4, E', rfl, R3.out, fun y hy => ?_, R4.out, fun y hy h0 => ?_, fun y z hy hz h0 => ?_, T5.out, M5.out, H5.out, F5.out⟩
    · have := F3.out y hy
      omega
    · have := N4.out y hy h0
      omega
    · have h1 := IN3.out y hy
      have h2 := N4.out z hz h0
      omega

set_option maxRecDepth 100000 in
set_option maxHeartbeats 4000000 in
theorem bopen_any {w : World} {k t r1 : Nat} {m2 m3 : Value} {A A' A3 : Option Addr} {n c n' c' n3 c3 : Nat} {ad b l : List UInt8} (key : List UInt8) (num : Int) (ok : Bool) (hk : Blk w k 65 [.pointer (some ⟨t, 0, none⟩), .map (some r1), m2, m3]) (hrl : r1 < w.heap.size) (h32 : key.length = 32) (hra : Rd w A n c ad) (hrb : Rd w A' n' c' b)
    (hlk : ∀ W : World, W.heap[r1]? = w.heap[r1]? → (Instr.lookup 62 (.map (some r1)) (lkKey key num ad b) true).run Tryd.prog W = .ok (.tuple #[.slice A3 n3 c3, .bool ok]) W) (hr3 : Rd w A3 n3 c3 l) (hn3 : n3 ≤ 100000) :
    Calls Tryd.prog 26 #[.pointer (some ⟨k, 0, none⟩), .agg (key.map cellOf).toArray, .int .i64 num, .slice A n c, .slice A' n' c'] w (RetP w (l, ok)) := by
  have HKB := Lib.hid hk
  have HRA := Lib.hid hra
  have HRB := Lib.hid hrb
  have HR3 := Lib.hid hr3
  have hkl := hk.lt
  obtain ⟨kc, hkc⟩ : ∃ kc, kc = key.map cellOf := ⟨_, rfl⟩
  obtain ⟨cs, hcs⟩ : ∃ cs, cs = kc ++ [Value.int .i64 num, .string ⟨ad.toArray⟩, .string ⟨b.toArray⟩] := ⟨_, rfl⟩
  rw [show lkKey key num ad b = .agg cs.toArray by rw [hcs, hkc]; rfl] at hlk
  have HLK := Lib.hid hlk
  have K32 : kc.length = 32 := by rw [hkc, List.length_map, h32]
  have HBL : Hid (Tryd.prog.built 79 [(0, .agg kc.toArray), (1, .int .i64 num), (2, .string ⟨ad.toArray⟩), (3, .string ⟨b.toArray⟩)] = some cs.toArray) := by unfold Hid; rw [hcs]; exact builtL K32 _ _ _
  have IK : Hid ((Tryd.prog.info? 34).map (·.size) = some kc.length) := by unfold Hid; rw [K32]; kernel_rfl
  rw [← hkc]
  clear hk hra hrb hr3 hlk hkc hcs K32 h32
  go_enter Tryd.func26, Tryd.ntmps26
  go_upto_region 1 with (fail)
  refine wp_region_any (by kernel_rfl) ?_
  obtain ⟨w2, hw2⟩ : ∃ w2, w2 = (w.alloc (Obj.cells kc.toArray 34)).drew := ⟨_, rfl⟩
  have B1 : Hid (Blk w2 w.heap.size 34 kc) := by unfold Hid; rw [hw2]; exact (Blk.new w _ _).drew
  have W2 : Hid (Below w.heap.size w w2) := by unfold Hid; rw [hw2]; exact (alloc_below w _).drew
  have hs0 : w.heap.size + 1 ≤ w2.heap.size := by rw [hw2]; show w.heap.size + 1 ≤ (w.alloc _).heap.size; simp
  change wpAny _ _ _ _ _ _ _ (w.alloc (Obj.cells kc.toArray 34)).drew
  rw [← hw2]
  clear hw2
  obtain ⟨g, hg⟩ : ∃ g, g = w.heap.size := ⟨_, rfl⟩
  rw [← hg] at B1
  rw [← hg]
  have hg1 : w.heap.size ≤ g := by omega
  clear hg
  have K1 := Lib.hid (HKB.out.below W2.out hkl)
  have RA := Lib.hid (HRA.out.below W2.out)
  have RB := Lib.hid (HRB.out.below W2.out)
  clear HKB HRA HRB
  refine wpAny_take (i := 0) (oi := ?oi16) (v := .pointer (some ⟨k, 0, none⟩)) ?hi16 (by kernel_rfl) (by kernel_rfl) (by kernel_rfl) ?hQ16 ?hy16 ?rest16
  case hi16 => simp only [List.getElem?_toArray, List.getElem?_cons_succ, List.getElem?_cons_zero]; rfl
  case hQ16 => exact fun _ _ _ h => h
  case hy16 => exact Or.inl ⟨by rfl, by intro w; go_simp⟩
  try simp only [Act.put, List.setIfInBounds_toArray, List.set_cons_zero, List.set_cons_succ]
  refine wpAny_take (i := 1) (oi := ?oi17) (v := .pointer (some ⟨k, 0, none⟩)) ?hi17 (by kernel_rfl) (by kernel_rfl) (by kernel_rfl) ?hQ17 ?hy17 ?rest17
  case hi17 => simp only [List.getElem?_toArray, List.getElem?_cons_succ, List.getElem?_cons_zero]; rfl
  case hQ17 => exact fun _ _ _ h => h
  case hy17 => exact Or.inl ⟨by rfl, by intro w; go_simp⟩
  try simp only [Act.put, List.setIfInBounds_toArray, List.set_cons_zero, List.set_cons_succ]
  refine wpAny_take (i := 2) (oi := ?oi18) (v := .pointer (some ⟨k, 1, none⟩)) ?hi18 (by kernel_rfl) (by kernel_rfl) (by kernel_rfl) ?hQ18 ?hy18 ?rest18
  case hi18 => simp only [List.getElem?_toArray, List.getElem?_cons_succ, List.getElem?_cons_zero]; rfl
  case hQ18 => exact fun _ _ _ h => h
  case hy18 => exact Or.inl ⟨by rfl, by intro w; go_simp⟩
  try simp only [Act.put, List.setIfInBounds_toArray, List.set_cons_zero, List.set_cons_succ]
  refine wpAny_take (i := 5) (oi := ?oi19) (v := .int .i64 num) ?hi19 (by kernel_rfl) (by kernel_rfl) (by kernel_rfl) ?hQ19 ?hy19 ?rest19
  case hi19 => simp only [List.getElem?_toArray, List.getElem?_cons_succ, List.getElem?_cons_zero]; rfl
  case hQ19 => exact fun _ _ _ h => h
  case hy19 => exact Or.inl ⟨by rfl, by intro w; go_simp⟩
  try simp only [Act.put, List.setIfInBounds_toArray, List.set_cons_zero, List.set_cons_succ]
  refine wpAny_take (i := 6) (oi := ?oi20) (v := .slice A n c) ?hi20 (by kernel_rfl) (by kernel_rfl) (by kernel_rfl) ?hQ20 ?hy20 ?rest20
  case hi20 => simp only [List.getElem?_toArray, List.getElem?_cons_succ, List.getElem?_cons_zero]; rfl
  case hQ20 => exact fun _ _ _ h => h
  case hy20 => exact Or.inl ⟨by rfl, by intro w; go_simp⟩
  try simp only [Act.put, List.setIfInBounds_toArray, List.set_cons_zero, List.set_cons_succ]
  refine wpAny_take (i := 8) (oi := ?oi21) (v := .slice A' n' c') ?hi21 (by kernel_rfl) (by kernel_rfl) (by kernel_rfl) ?hQ21 ?hy21 ?rest21
  case hi21 => simp only [List.getElem?_toArray, List.getElem?_cons_succ, List.getElem?_cons_zero]; rfl
  case hQ21 => exact fun _ _ _ h => h
  case hy21 => exact Or.inl ⟨by rfl, by intro w; go_simp⟩
  try simp only [Act.put, List.setIfInBounds_toArray, List.set_cons_zero, List.set_cons_succ]
  refine phaseL (fun i => if i = 10 then [4, 7, 9] else if i = 11 then [3, 10] else if i = 12 then [11] else if i = 13 then [12] else if i = 14 then [12] else if i = 15 then [13, 3, 4, 7, 9, 10, 11, 12] else []) (fun d a w' => ∃ x18 x19 x22 x24 x25 x26 x14 x27 x28 x12 : Value, a = { tmps := #[.pointer (some ⟨k, 0, none⟩), .agg kc.toArray, .int .i64 num, .slice A n c, .slice A' n' c', undef, .pointer (some ⟨g, 0, none⟩), undef, undef, undef, .slice none 0 0, .bool false, x12, undef, x14, .pointer (some ⟨k, 0, none⟩), .pointer (some ⟨k, 0, none⟩), .pointer (some ⟨k, 1, none⟩), x18, x19, .int .i64 num, .slice A n c, x22, .slice A' n' c', x24, x25, x26, x27, x28, undef, undef, undef], defers := [] } ∧ Hid (Below w2.heap.size w2 w') ∧ (d 3 = true → x18 = .map (some r1)) ∧ (d 4 = true → x19 = .agg kc.toArray) ∧ (d 7 = true → x22 = .string ⟨ad.toArray⟩) ∧ (d 9 = true → x24 = .string ⟨b.toArray⟩) ∧ (d 10 = true → x25 = .agg cs.toArray) ∧ (d 11 = true → x26 = .tuple #[.slice A3 n3 c3, .bool ok]) ∧ (d 12 = true → x14 = .tuple #[.slice A3 n3 c3, .bool ok]) ∧ (d 13 = true → x27 = .slice A3 n3 c3) ∧ (d 14 = true → x28 = .bool ok) ∧ (d 15 = true → x12 = .slice A3 n3 c3)) [3, 4, 7, 9, 10, 11, 12, 13, 14, 15] ?step22 1 10 [3, 4, 7, 9, 10, 11, 12, 13, 14, 15] _ _ _ rfl (by decide) (fun _ h => h) (Fits.of (by kernel_rfl)) ?init22 ?fin22
  case init22 => refine ⟨_, _, _, _, _, _, _, _, _, _, rfl, Below.refl _ _, ?_, ?_, ?_, ?_, ?_, ?_, ?_, ?_, ?_, ?_⟩ <;> (intro h; exact absurd h (by decide))
  case step22 =>
    intro i hi d a v22 hI hdi hdeps
    obtain ⟨x18, x19, x22, x24, x25, x26, x14, x27, x28, x12, rfl, BW, h3, h4, h7, h9, h10, h11, h12, h13, h14, h15⟩ := hI
    have hsw := BW.out.size
    simp only [List.mem_cons, List.not_mem_nil, or_false] at hi
    rcases hi with rfl | rfl | rfl | rfl | rfl | rfl | rfl | rfl | rfl | rfl
    · have c0 : v22.cell? ⟨k, 1, none⟩ = some (.map (some r1)) := (K1.out.below BW.out K1.out.lt).cell 1
      refine wpOp_step (o := ?os23) ?hos23 (fun K hK => ?_)
      case hos23 => simp only [List.getElem?_toArray, List.getElem?_cons_succ, List.getElem?_cons_zero]; rfl
      go_simp
      refine hK _ _ ?_
      clear hK K
      try simp only [Act.put, List.setIfInBounds_toArray, List.set_cons_zero, List.set_cons_succ]
      exact ⟨_, _, _, _, _, _, _, _, _, _, rfl, BW, fun _ => rfl, fun a => by first | exact h4 (by simpa using a) | rfl, fun a => by first | exact h7 (by simpa using a) | rfl, fun a => by first | exact h9 (by simpa using a) | rfl, fun a => by first | exact h10 (by simpa using a) | rfl, fun a => by first | exact h11 (by simpa using a) | rfl, fun a => by first | exact h12 (by simpa using a) | rfl, fun a => by first | exact h13 (by simpa using a) | rfl, fun a => by first | exact h14 (by simpa using a) | rfl, fun a => by first | exact h15 (by simpa using a) | rfl⟩
    · refine wpOp_step (o := ?os24) ?hos24 (fun K hK => ?_)
      case hos24 => simp only [List.getElem?_toArray, List.getElem?_cons_succ, List.getElem?_cons_zero]; rfl
      refine step_loadW rfl 34 (.tmp 6) rfl g 0 rfl kc _ Tryd.underlying34 rfl IK.out (B1.out.below BW.out B1.out.lt).cells (hK _ _ ?_)
      clear hK K
      try simp only [Act.put, List.setIfInBounds_toArray, List.set_cons_zero, List.set_cons_succ]
      exact ⟨_, _, _, _, _, _, _, _, _, _, rfl, BW, fun a => by first | exact h3 (by simpa using a) | rfl, fun _ => rfl, fun a => by first | exact h7 (by simpa using a) | rfl, fun a => by first | exact h9 (by simpa using a) | rfl, fun a => by first | exact h10 (by simpa using a) | rfl, fun a => by first | exact h11 (by simpa using a) | rfl, fun a => by first | exact h12 (by simpa using a) | rfl, fun a => by first | exact h13 (by simpa using a) | rfl, fun a => by first | exact h14 (by simpa using a) | rfl, fun a => by first | exact h15 (by simpa using a) | rfl⟩
    · have hcv := conv_bytes (RA.out.below BW.out)
      refine wpOp_step (o := ?os25) ?hos25 (fun K hK => ?_)
      case hos25 => simp only [List.getElem?_toArray, List.getElem?_cons_succ, List.getElem?_cons_zero]; rfl
      go_simp
      refine hK _ _ ?_
      clear hK K
      try simp only [Act.put, List.setIfInBounds_toArray, List.set_cons_zero, List.set_cons_succ]
      exact ⟨_, _, _, _, _, _, _, _, _, _, rfl, BW, fun a => by first | exact h3 (by simpa using a) | rfl, fun a => by first | exact h4 (by simpa using a) | rfl, fun _ => rfl, fun a => by first | exact h9 (by simpa using a) | rfl, fun a => by first | exact h10 (by simpa using a) | rfl, fun a => by first | exact h11 (by simpa using a) | rfl, fun a => by first | exact h12 (by simpa using a) | rfl, fun a => by first | exact h13 (by simpa using a) | rfl, fun a => by first | exact h14 (by simpa using a) | rfl, fun a => by first | exact h15 (by simpa using a) | rfl⟩
    · have hcv := conv_bytes (RB.out.below BW.out)
      refine wpOp_step (o := ?os26) ?hos26 (fun K hK => ?_)
      case hos26 => simp only [List.getElem?_toArray, List.getElem?_cons_succ, List.getElem?_cons_zero]; rfl
      go_simp
      refine hK _ _ ?_
      clear hK K
      try simp only [Act.put, List.setIfInBounds_toArray, List.set_cons_zero, List.set_cons_succ]
      exact ⟨_, _, _, _, _, _, _, _, _, _, rfl, BW, fun a => by first | exact h3 (by simpa using a) | rfl, fun a => by first | exact h4 (by simpa using a) | rfl, fun a => by first | exact h7 (by simpa using a) | rfl, fun _ => rfl, fun a => by first | exact h10 (by simpa using a) | rfl, fun a => by first | exact h11 (by simpa using a) | rfl, fun a => by first | exact h12 (by simpa using a) | rfl, fun a => by first | exact h13 (by simpa using a) | rfl, fun a => by first | exact h14 (by simpa using a) | rfl, fun a => by first | exact h15 (by simpa using a) | rfl⟩
    · obtain rfl := h4 (hdeps 4 (by simp))
      obtain rfl := h7 (hdeps 7 (by simp))
      obtain rfl := h9 (hdeps 9 (by simp))
      refine wpOp_step (o := ?os27) ?hos27 (fun K hK => ?_)
      case hos27 => simp only [List.getElem?_toArray, List.getElem?_cons_succ, List.getElem?_cons_zero]; rfl
      refine step_build rfl 79 #[(0, .tmp 19), (1, .tmp 20), (2, .tmp 22), (3, .tmp 24)] rfl cs (by simp only [List.map_toArray, List.map_cons, List.map_nil]; exact HBL.out) (hK _ _ ?_)
      clear hK K
      try simp only [Act.put, List.setIfInBounds_toArray, List.set_cons_zero, List.set_cons_succ]
      exact ⟨_, _, _, _, _, _, _, _, _, _, rfl, BW, fun a => by first | exact h3 (by simpa using a) | rfl, fun a => by first | exact h4 (by simpa using a) | rfl, fun a => by first | exact h7 (by simpa using a) | rfl, fun a => by first | exact h9 (by simpa using a) | rfl, fun _ => rfl, fun a => by first | exact h11 (by simpa using a) | rfl, fun a => by first | exact h12 (by simpa using a) | rfl, fun a => by first | exact h13 (by simpa using a) | rfl, fun a => by first | exact h14 (by simpa using a) | rfl, fun a => by first | exact h15 (by simpa using a) | rfl⟩
    · obtain rfl := h3 (hdeps 3 (by simp))
      obtain rfl := h10 (hdeps 10 (by simp))
      have hlk := HLK.out v22 ((BW.out.block r1 (by omega)).trans (W2.out.block r1 hrl))
      refine wpOp_step (o := ?os28) ?hos28 (fun K hK => ?_)
      case hos28 => simp only [List.getElem?_toArray, List.getElem?_cons_succ, List.getElem?_cons_zero]; rfl
      go_simp
      refine hK _ _ ?_
      clear hK K
      try simp only [Act.put, List.setIfInBounds_toArray, List.set_cons_zero, List.set_cons_succ]
      exact ⟨_, _, _, _, _, _, _, _, _, _, rfl, BW, fun a => by first | exact h3 (by simpa using a) | rfl, fun a => by first | exact h4 (by simpa using a) | rfl, fun a => by first | exact h7 (by simpa using a) | rfl, fun a => by first | exact h9 (by simpa using a) | rfl, fun a => by first | exact h10 (by simpa using a) | rfl, fun _ => rfl, fun a => by first | exact h12 (by simpa using a) | rfl, fun a => by first | exact h13 (by simpa using a) | rfl, fun a => by first | exact h14 (by simpa using a) | rfl, fun a => by first | exact h15 (by simpa using a) | rfl⟩
    · obtain rfl := h11 (hdeps 11 (by simp))
      refine wpOp_step (o := ?os29) ?hos29 (fun K hK => ?_)
      case hos29 => simp only [List.getElem?_toArray, List.getElem?_cons_succ, List.getElem?_cons_zero]; rfl
      go_simp
      refine hK _ _ ?_
      clear hK K
      try simp only [Act.put, List.setIfInBounds_toArray, List.set_cons_zero, List.set_cons_succ]
      exact ⟨_, _, _, _, _, _, _, _, _, _, rfl, BW, fun a => by first | exact h3 (by simpa using a) | rfl, fun a => by first | exact h4 (by simpa using a) | rfl, fun a => by first | exact h7 (by simpa using a) | rfl, fun a => by first | exact h9 (by simpa using a) | rfl, fun a => by first | exact h10 (by simpa using a) | rfl, fun a => by first | exact h11 (by simpa using a) | rfl, fun _ => rfl, fun a => by first | exact h13 (by simpa using a) | rfl, fun a => by first | exact h14 (by simpa using a) | rfl, fun a => by first | exact h15 (by simpa using a) | rfl⟩
    · obtain rfl := h12 (hdeps 12 (by simp))
      refine wpOp_step (o := ?os30) ?hos30 (fun K hK => ?_)
      case hos30 => simp only [List.getElem?_toArray, List.getElem?_cons_succ, List.getElem?_cons_zero]; rfl
      go_simp
      refine hK _ _ ?_
      clear hK K
      try simp only [Act.put, List.setIfInBounds_toArray, List.set_cons_zero, List.set_cons_succ]
      exact ⟨_, _, _, _, _, _, _, _, _, _, rfl, BW, fun a => by first | exact h3 (by simpa using a) | rfl, fun a => by first | exact h4 (by simpa using a) | rfl, fun a => by first | exact h7 (by simpa using a) | rfl, fun a => by first | exact h9 (by simpa using a) | rfl, fun a => by first | exact h10 (by simpa using a) | rfl, fun a => by first | exact h11 (by simpa using a) | rfl, fun a => by first | exact h12 (by simpa using a) | rfl, fun _ => rfl, fun a => by first | exact h14 (by simpa using a) | rfl, fun a => by first | exact h15 (by simpa using a) | rfl⟩
    · obtain rfl := h12 (hdeps 12 (by simp))
      refine wpOp_step (o := ?os31) ?hos31 (fun K hK => ?_)
      case hos31 => simp only [List.getElem?_toArray, List.getElem?_cons_succ, List.getElem?_cons_zero]; rfl
      go_simp
      refine hK _ _ ?_
      clear hK K
      try simp only [Act.put, List.setIfInBounds_toArray, List.set_cons_zero, List.set_cons_succ]
      exact ⟨_, _, _, _, _, _, _, _, _, _, rfl, BW, fun a => by first | exact h3 (by simpa using a) | rfl, fun a => by first | exact h4 (by simpa using a) | rfl, fun a => by first | exact h7 (by simpa using a) | rfl, fun a => by first | exact h9 (by simpa using a) | rfl, fun a => by first | exact h10 (by simpa using a) | rfl, fun a => by first | exact h11 (by simpa using a) | rfl, fun a => by first | exact h12 (by simpa using a) | rfl, fun a => by first | exact h13 (by simpa using a) | rfl, fun _ => rfl, fun a => by first | exact h15 (by simpa using a) | rfl⟩
    · obtain rfl := h13 (hdeps 13 (by simp))
      refine wpOp_step (o := ?os32) ?hos32 (fun K hK => ?_)
      case hos32 => simp only [List.getElem?_toArray, List.getElem?_cons_succ, List.getElem?_cons_zero]; rfl
      go_simp
      refine hK _ _ ?_
      clear hK K
      try simp only [Act.put, List.setIfInBounds_toArray, List.set_cons_zero, List.set_cons_succ]
      exact ⟨_, _, _, _, _, _, _, _, _, _, rfl, BW, fun a => by first | exact h3 (by simpa using a) | rfl, fun a => by first | exact h4 (by simpa using a) | rfl, fun a => by first | exact h7 (by simpa using a) | rfl, fun a => by first | exact h9 (by simpa using a) | rfl, fun a => by first | exact h10 (by simpa using a) | rfl, fun a => by first | exact h11 (by simpa using a) | rfl, fun a => by first | exact h12 (by simpa using a) | rfl, fun a => by first | exact h13 (by simpa using a) | rfl, fun a => by first | exact h14 (by simpa using a) | rfl, fun _ => rfl⟩
  case fin22 =>
    intro a v22 hI
    obtain ⟨x18, x19, x22, x24, x25, x26, x14, x27, x28, x12, rfl, BW, h3, h4, h7, h9, h10, h11, h12, h13, h14, h15⟩ := hI
    obtain rfl := h3 (by decide)
    obtain rfl := h4 (by decide)
    obtain rfl := h7 (by decide)
    obtain rfl := h9 (by decide)
    obtain rfl := h10 (by decide)
    obtain rfl := h11 (by decide)
    obtain rfl := h12 (by decide)
    obtain rfl := h13 (by decide)
    obtain rfl := h14 (by decide)
    obtain rfl := h15 (by decide)
    have W3 := Lib.hid (W2.out.trans (BW.out.mono W2.out.size))
    have R3 := Lib.hid (HR3.out.below W3.out)
    clear h3 h4 h7 h9 h10 h11 h12 h13 h14 h15 BW W2 RA RB K1 B1 HR3
    try dsimp only
    refine wpAny_take (i := 16) (oi := ?oi33) (v := .bool ok) ?hi33 (by kernel_rfl) (by kernel_rfl) (by kernel_rfl) ?hQ33 ?hy33 ?rest33
    case hi33 => simp only [List.getElem?_toArray, List.getElem?_cons_succ, List.getElem?_cons_zero]; rfl
    case hQ33 => exact fun _ _ _ h => h
    case hy33 => exact Or.inl ⟨by rfl, by intro w; go_simp⟩
    try simp only [Act.put, List.setIfInBounds_toArray, List.set_cons_zero, List.set_cons_succ]
    refine wpAny_done (by kernel_rfl) ?_ _
    go_wp2_with fail
    refine (bclone_any R3.out hn3).mono ?_
    rintro e w4 ⟨A4, c4, rfl, hR, hX, hF⟩
    have R4 := Lib.hid hR
    have F4 := Lib.hid hF
    have hs3 := W3.out.size
    have W4 := Lib.hid (W3.out.trans (hX.mono hs3))
    clear hR hF hX
    go_wp2_with fail
    go_ret2
    exact ⟨A4, n3, c4, rfl, R4.out, W4.out, fun y hy h0 => by have := F4.out y hy h0; omega⟩
end Go.Proofs.YtpbfeobifpmjbaaDoor
