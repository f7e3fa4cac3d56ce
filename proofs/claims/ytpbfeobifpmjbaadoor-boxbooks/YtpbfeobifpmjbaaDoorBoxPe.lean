/- The landed box: Seal and Open. -/
import Derived.Test.YtpbfeobifpmjbaaDoorBoxPd
namespace Go.Proofs.YtpbfeobifpmjbaaDoor
set_option linter.unusedVariables false
set_option linter.unusedSimpArgs false
set_option maxRecDepth 100000
open Go.RowKit

theorem zero28 (W : World) : (zeroValue 28).run Tryd.prog W = .ok (.slice none 0 0) W := by kernel_rfl
/-- What a box notes when it seals. -/
theorem BxJ.sealed {w : World} {g k t r1 r2 r3 : Nat} {s : Int} {a : Nat} {S : List Bx.SNote} {B L : List Bx.BNote} {ES EB EL : List (Value × Value)} {M : Nat → Prop} (J : BxJ w g k t r1 r2 r3 s a S B L ES EB EL M) {w' : World} {a2 : Nat} {E' : List (Value × Value)} {key ad b out : List UInt8} {num : Int} {A4 : Option Addr} {n4 c4 : Nat} (h32 : key.length = 32) (hF : Fr (fun b => b = t ∨ b = r1) w w') (hT : TapeAt w' t s a2) (hM : MapIs 79 w' r1 E')
    (hE : ∀ p, p ∈ E' ↔ p = (lkKey key num ad out, .slice A4 n4 c4) ∨ (p ∈ ES ∧ p.1 ≠ lkKey key num ad out)) (hR : Rd w' A4 n4 c4 b) (hn4 : n4 ≤ 3000) (hN : ∀ x : Addr, A4 = some x → 0 < n4 → w.heap.size ≤ x.block) :
    BxJ w' g k t r1 r2 r3 s a2 (⟨key, num, ad, b, out⟩ :: S) B L E' EB EL (fun x => M x ∨ ∃ y : Addr, A4 = some y ∧ 0 < n4 ∧ x = y.block) := by
  obtain ⟨x1, x2, x3, x4, x5, x6, x7, x8, x9, x10, x11, x12, x13, x14, x15⟩ := J.ne
  have hb : ∀ b, M b → b ≠ t → b ≠ r1 → w'.heap[b]? = w.heap[b]? := fun b hb h1 h2 => hF.block b (J.lt b hb) (by rintro (h | h) <;> contradiction)
  have mg := J.mem g (.inl rfl)
  have mk := J.mem k (.inr (.inl rfl))
  have m2 := J.mem r2 (.inr (.inr (.inr (.inr (.inl rfl)))))
  have m3 := J.mem r3 (.inr (.inr (.inr (.inr (.inr rfl)))))
  exact {
    bg := (hb g mg x2 x3).trans J.bg
    bk := (hb k mk x6 x7).trans J.bk
    tp := hT
    mS := hM
    mB := J.mB.keep (hb r2 m2 (Ne.symm x11) (Ne.symm x13))
    mL := J.mL.keep (hb r3 m3 (Ne.symm x12) (Ne.symm x14))
    sS := by
      constructor
      · intro p hp
        rcases (hE p).1 hp with rfl | ⟨h1, h2⟩
        · refine ⟨key, num, ad, out, b, A4, n4, c4, h32, rfl, hR, hn4, ?_, fun x hx h0 => ⟨.inr ⟨x, hx, h0, rfl⟩, fun h => ?_⟩⟩
          · simp [Bx.lookS]
          · have := J.lt x.block (J.mem _ h)
            have := hN x hx h0
            omega
        · obtain ⟨k2, n2, ad2, c2, b2, A, n, cp, e1, e2, e3, e30, e4, e5⟩ := J.sS.of p h1
          refine ⟨k2, n2, ad2, c2, b2, A, n, cp, e1, e2, ?_, e30, ?_, fun x hx h0 => ⟨.inl (e5 x hx h0).1, (e5 x hx h0).2⟩⟩
          · refine e3.keep hF.size fun bb off e h0 _ => hb bb (e5 _ e h0).1 (fun h => (e5 _ e h0).2 (.inr (.inr (.inl h)))) (fun h => (e5 _ e h0).2 (.inr (.inr (.inr (.inl h)))))
          · rw [Bx.lookS, if_neg]
            · exact e4
            · rintro ⟨rfl, rfl, rfl, rfl⟩
              exact h2 (by rw [e2])
      · intro k2 n2 ad2 c2 hk2 hl
        by_cases he : key = k2 ∧ num = n2 ∧ ad = ad2 ∧ out = c2
        · obtain ⟨rfl, rfl, rfl, rfl⟩ := he
          exact ⟨_, (hE _).2 (.inl rfl)⟩
        · rw [Bx.lookS, if_neg he] at hl
          obtain ⟨v, hv⟩ := J.sS.is k2 n2 ad2 c2 hk2 hl
          exact ⟨v, (hE _).2 (.inr ⟨hv, fun h => by
            obtain ⟨q1, q2, q3, q4⟩ := lkKey_inj hk2 h32 h
            exact he ⟨q1.symm, q2.symm, q3.symm, q4.symm⟩⟩)⟩
    sB := J.sB
    sL := J.sL
    gB := J.gB
    gL := J.gL
    ne := J.ne
    mem := fun x h => .inl (J.mem x h)
    lt := by
      rintro b (h | ⟨y, hy, h0, rfl⟩)
      · exact Nat.lt_of_lt_of_le (J.lt b h) hF.size
      · exact hR.in_ h0 y hy }
/-- What a box finds. -/
theorem BxJ.found {w : World} {g k t r1 r2 r3 : Nat} {s : Int} {a : Nat} {S : List Bx.SNote} {B L : List Bx.BNote} {ES EB EL : List (Value × Value)} {M : Nat → Prop} (J : BxJ w g k t r1 r2 r3 s a S B L ES EB EL M) {key ad c : List UInt8} {num : Int} (h32 : key.length = 32) (h1 : -9223372036854775808 ≤ num) (h2 : num ≤ 9223372036854775807) (ha : ad.length ≤ 1000000) (hc : c.length ≤ 1000000) :
    ∃ A3 n3 c3, (∀ W : World, W.heap[r1]? = w.heap[r1]? → (Instr.lookup 62 (.map (some r1)) (lkKey key num ad c) true).run Tryd.prog W = .ok (.tuple #[.slice A3 n3 c3, .bool (Bx.openBy key num ad c S).2]) W) ∧ Rd w A3 n3 c3 (Bx.openBy key num ad c S).1 ∧ n3 ≤ 3000 := by
  have HK := keyL h32 h1 h2 (show ad.length ≤ maxLen by unfold maxLen; omega) (show c.length ≤ maxLen by unfold maxLen; omega)
  by_cases hv : ∃ v, (lkKey key num ad c, v) ∈ ES
  · obtain ⟨v, hv⟩ := hv
    obtain ⟨k2, n2, ad2, c2, b2, A, n, cp, e1, e2, e3, e30, e4, e5⟩ := J.sS.of _ hv
    injection e2 with e2 e6
    obtain ⟨rfl, rfl, rfl, rfl⟩ := lkKey_inj h32 e1 e2
    have ho : Bx.openBy key num ad c S = (b2, true) := by simp [Bx.openBy, e4]
    rw [ho]
    refine ⟨A, n, cp, fun W hW => ?_, e3, e30⟩
    rcases (J.mS.keep hW).look lawL Tryd.underlying62 (zero28 W) HK with ⟨_, hn⟩ | ⟨v2, hr, hi⟩
    · exact absurd hv (hn v)
    · rw [hr]
      have : v2 = v := by
        have h3 := J.mS.once
        obtain ⟨i, hi'⟩ := List.mem_iff_getElem?.1 hi
        obtain ⟨j, hj'⟩ := List.mem_iff_getElem?.1 hv
        have n1 : (ES.map (·.1))[i]? = some (lkKey key num ad c) := by rw [List.getElem?_map, hi']; rfl
        have n2 : (ES.map (·.1))[j]? = some (lkKey key num ad c) := by rw [List.getElem?_map, hj']; rfl
        have hij : i = j := (List.getElem?_inj (List.getElem?_eq_some_iff.1 n1).1 h3).1 (n1.trans n2.symm)
        rw [hij, hj'] at hi'
        injection hi' with hi'
        injection hi' with _ hi'
        exact hi'.symm
      rw [this, e6]
  · have hl : Bx.lookS key num ad c S = none := by
      cases h : Bx.lookS key num ad c S with
      | none => rfl
      | some b => exact absurd (J.sS.is key num ad c h32 (by rw [h]; simp)) hv
    have ho : Bx.openBy key num ad c S = ([], false) := by simp [Bx.openBy, hl]
    rw [ho]
    refine ⟨none, 0, 0, fun W hW => ?_, Rd.nil _ _ _ (by unfold maxLen; omega), by omega⟩
    rcases (J.mS.keep hW).look lawL Tryd.underlying62 (zero28 W) HK with ⟨hr, _⟩ | ⟨v2, hr, hi⟩
    · exact hr
    · exact absurd ⟨v2, hi⟩ hv

set_option maxRecDepth 100000 in
theorem bslZ (w : World) (key : List UInt8) (num : Int) (A A' : Option Addr) (n c n' c' : Nat) (hk : key.length = 32) : Calls Tryd.prog 12 #[.pointer none, .agg (key.map cellOf).toArray, .int .i64 num, .slice A n c, .slice A' n' c'] w fun e w' => e = .returned (.slice none 0 0) ∧ Below w.heap.size w w' := by
  generalize key.map cellOf = kc
  go_enter Tryd.func12, Tryd.ntmps12
  go_wp2_with fail
  go_ret
  exact ⟨rfl, alloc_below w _⟩
set_option maxRecDepth 100000 in
theorem bslN {w : World} {g : Nat} (key : List UInt8) (num : Int) (A A' : Option Addr) (n c n' c' : Nat) (hk : key.length = 32) (hn : num < 0) : Calls Tryd.prog 12 #[.pointer (some ⟨g, 0, none⟩), .agg (key.map cellOf).toArray, .int .i64 num, .slice A n c, .slice A' n' c'] w fun e w' => e = .returned (.slice none 0 0) ∧ Below w.heap.size w w' := by
  have d0 : decide (num < 0) = true := decide_eq_true hn
  generalize key.map cellOf = kc
  go_enter Tryd.func12, Tryd.ntmps12
  go_wp2_with fail
  go_ret
  exact ⟨rfl, alloc_below w _⟩

set_option maxRecDepth 100000 in
set_option maxHeartbeats 4000000 in
theorem bslR {w : World} {g : Nat} {A A' : Option Addr} {n c n' c' : Nat} {ad b : List UInt8} (key : List UInt8) (num : Int) (hg : Blk w g 53 [.pointer none]) (h32 : key.length = 32) (hn0 : 0 ≤ num) (hn1 : num ≤ 9223372036854775807) (hra : Rd w A n c ad) (hrb : Rd w A' n' c' b) (hna : n ≤ 3000) (hnb : n' ≤ 3000) :
    Calls Tryd.prog 12 #[.pointer (some ⟨g, 0, none⟩), .agg (key.map cellOf).toArray, .int .i64 num, .slice A n c, .slice A' n' c'] w (RetSR w (Ae.sealed key (Bx.nonce num) ad b)) := by
  obtain ⟨out, hout⟩ : ∃ l, l = Ae.sealed key (Bx.nonce num) ad b := ⟨_, rfl⟩
  rw [← hout]
  obtain ⟨kc, hkc⟩ : ∃ kc, kc = key.map cellOf := ⟨_, rfl⟩
  obtain ⟨nc, hnc⟩ : ∃ nc, nc = (Bx.nonce num).map cellOf := ⟨_, rfl⟩
  have CS : Hid (∀ W, Rd W A n c ad → Rd W A' n' c' b → Calls Tryd.prog 24 #[.agg kc.toArray, .agg nc.toArray, .slice A n c, .slice A' n' c'] W fun e w' => ∃ A n c, e = .returned (.slice A n c) ∧ Rd w' A n c out ∧ Below W.heap.size W w' ∧ ∀ x, A = some x → 0 < n → W.heap.size ≤ x.block) := fun W h1 h2 => by
    rw [hkc, hnc, hout]
    exact seal_new key (Bx.nonce num) h32 (Bx.nonce_length num) h1 h2 (by omega) (by omega)
  have CT : Hid (∀ W, Calls Tryd.prog 25 #[.int .i64 num] W fun e w' => e = .returned (.agg nc.toArray) ∧ Below W.heap.size W w') := fun W => by
    obtain ⟨m, rfl⟩ := Int.eq_ofNat_of_zero_le hn0
    rw [hnc]
    exact twelve_any m W (by omega)
  have IK : Hid ((Tryd.prog.info? 34).map (·.size) = some kc.length) := by unfold Hid; rw [hkc, List.length_map, h32]; kernel_rfl
  have d0 : decide (num < 0) = false := decide_eq_false (by omega)
  have HBG := Lib.hid hg
  have hgl := hg.lt
  have HRA := Lib.hid hra
  have HRB := Lib.hid hrb
  rw [← hkc]
  clear hg hra hrb hkc hnc hout h32
  go_enter Tryd.func12, Tryd.ntmps12
  go_upto_region 1 with (fail)
  obtain ⟨w0, hw0⟩ : ∃ w0, w0 = w.alloc (Obj.cells kc.toArray 34) := ⟨_, rfl⟩
  have B0 : Hid (Blk w0 w.heap.size 34 kc) := by unfold Hid; rw [hw0]; exact Blk.new w _ _
  have W0 : Hid (Below w.heap.size w w0) := by unfold Hid; rw [hw0]; exact alloc_below w _
  change Code.wp _ _ _ _ (w.alloc (Obj.cells kc.toArray 34))
  rw [← hw0]
  clear hw0
  obtain ⟨q, hq⟩ : ∃ q, q = w.heap.size := ⟨_, rfl⟩
  rw [← hq] at B0
  rw [← hq]
  clear hq
  have c0 : w0.cell? ⟨g, 0, none⟩ = some (.pointer none) := (HBG.out.below W0.out hgl).cell 0
  go_upto_region 5 with (fail)
  clear c0
  refine wp_region_any (by kernel_rfl) ?_
  change wpAny _ _ _ _ _ _ _ (World.drew _)
  replace B0 := Lib.hid B0.out.drew
  replace W0 : Hid (Below w.heap.size w w0.drew) := W0.out.drew
  generalize w0.drew = w2 at *
  refine wpAny_take (i := 1) (oi := ?oi1) (v := .int .i64 num) ?hi1 (by kernel_rfl) (by kernel_rfl) (by kernel_rfl) ?hQ1 ?hy1 ?rest1
  case hi1 => simp only [List.getElem?_toArray, List.getElem?_cons_succ, List.getElem?_cons_zero]; rfl
  case hQ1 => exact fun _ _ _ h => h
  case hy1 => exact Or.inl ⟨by rfl, by intro w; go_simp⟩
  try simp only [Act.put, List.setIfInBounds_toArray, List.set_cons_zero, List.set_cons_succ]
  refine wpAny_take (i := 3) (oi := ?oi2) (v := .slice A n c) ?hi2 (by kernel_rfl) (by kernel_rfl) (by kernel_rfl) ?hQ2 ?hy2 ?rest2
  case hi2 => simp only [List.getElem?_toArray, List.getElem?_cons_succ, List.getElem?_cons_zero]; rfl
  case hQ2 => exact fun _ _ _ h => h
  case hy2 => exact Or.inl ⟨by rfl, by intro w; go_simp⟩
  try simp only [Act.put, List.setIfInBounds_toArray, List.set_cons_zero, List.set_cons_succ]
  refine wpAny_take (i := 4) (oi := ?oi3) (v := .slice A' n' c') ?hi3 (by kernel_rfl) (by kernel_rfl) (by kernel_rfl) ?hQ3 ?hy3 ?rest3
  case hi3 => simp only [List.getElem?_toArray, List.getElem?_cons_succ, List.getElem?_cons_zero]; rfl
  case hQ3 => exact fun _ _ _ h => h
  case hy3 => exact Or.inl ⟨by rfl, by intro w; go_simp⟩
  try simp only [Act.put, List.setIfInBounds_toArray, List.set_cons_zero, List.set_cons_succ]
  refine phaseL (fun i => []) (fun d a w' => ∃ x33 x35 : Value, a = { tmps := #[.pointer (some ⟨g, 0, none⟩), .agg kc.toArray, .int .i64 num, .slice A n c, .slice A' n' c', undef, .pointer (some ⟨q, 0, none⟩), undef, undef, undef, .slice none 0 0, .bool false, .pointer (some ⟨g, 0, none⟩), .bool false, .bool false, .int .i64 num, .bool false, .bool false, .bool false, .pointer (some ⟨g, 0, none⟩), .pointer (some ⟨g, 0, none⟩), .pointer (some ⟨g, 0, none⟩), .pointer none, .bool false, undef, undef, undef, undef, undef, undef, undef, undef, undef, x33, .int .i64 num, x35, .slice A n c, .slice A' n' c', undef], defers := [] } ∧ Hid (Below w2.heap.size w2 w') ∧ (d 0 = true → x33 = .agg kc.toArray) ∧ (d 2 = true → x35 = .agg nc.toArray)) [0, 2] ?step4 2 2 [0, 2] _ _ _ rfl (by decide) (fun _ h => h) (Fits.of (by kernel_rfl)) ?init4 ?fin4
  case init4 => refine ⟨_, _, rfl, Below.refl _ _, ?_, ?_⟩ <;> (intro h; exact absurd h (by decide))
  case step4 =>
    intro i hi d a v4 hI hdi hdeps
    obtain ⟨x33, x35, rfl, BW, h0, h2⟩ := hI
    have hsw := BW.out.size
    simp only [List.mem_cons, List.not_mem_nil, or_false] at hi
    rcases hi with rfl | rfl
    · refine wpOp_step (o := ?os5) ?hos5 (fun K hK => ?_)
      case hos5 => simp only [List.getElem?_toArray, List.getElem?_cons_succ, List.getElem?_cons_zero]; rfl
      refine step_loadW rfl 34 (.tmp 6) rfl q 0 rfl kc _ Tryd.underlying34 rfl IK.out (B0.out.below BW.out B0.out.lt).cells (hK _ _ ?_)
      clear hK K
      try simp only [Act.put, List.setIfInBounds_toArray, List.set_cons_zero, List.set_cons_succ]
      exact ⟨_, _, rfl, BW, fun _ => rfl, fun a => by first | exact h2 (by simpa using a) | rfl⟩
    · refine wpOp_step (o := ?os6) ?hos6 (fun K hK => ?_)
      case hos6 => simp only [List.getElem?_toArray, List.getElem?_cons_succ, List.getElem?_cons_zero]; rfl
      go_simp
      refine (CT.out v4).mono ?_
      rintro e u4 ⟨rfl, hX⟩
      refine hK _ _ ?_
      clear hK K
      try simp only [Act.put, List.setIfInBounds_toArray, List.set_cons_zero, List.set_cons_succ]
      exact ⟨_, _, rfl, BW.out.trans (hX.mono hsw), fun a => by first | exact h0 (by simpa using a) | rfl, fun _ => rfl⟩
  case fin4 =>
    intro a v4 hI
    obtain ⟨x33, x35, rfl, BW, h0, h2⟩ := hI
    obtain rfl := h0 (by decide)
    obtain rfl := h2 (by decide)
    have W3 := Lib.hid (W0.out.trans (BW.out.mono W0.out.size))
    clear h0 h2 BW W0 B0
    try dsimp only
    refine wpAny_ready (rs := [5]) (by kernel_rfl) (by simp) ?_
    refine AllReady.cons (o := ?p8) ?q8 (fun K hK => ?_) AllReady.nil
    case q8 => simp only [List.getElem?_toArray, List.getElem?_cons_succ, List.getElem?_cons_zero]; rfl
    go_simp
    refine (CS.out _ (HRA.out.below W3.out) (HRB.out.below W3.out)).mono ?_
    rintro e w5 ⟨A3, n3, c3, rfl, hR, hX, hF⟩
    refine hK _ _ ?_
    clear hK K
    try simp only [Act.put, List.setIfInBounds_toArray, List.set_cons_zero, List.set_cons_succ]
    have R3 := Lib.hid hR
    have F3 := Lib.hid hF
    have hs3 := W3.out.size
    have W5 := Lib.hid (W3.out.trans (hX.mono hs3))
    clear hR hF hX
    refine wpAny_take (i := 6) (oi := ?oi9) (v := .slice A3 n3 c3) ?hi9 (by kernel_rfl) (by kernel_rfl) (by kernel_rfl) ?hQ9 ?hy9 ?rest9
    case hi9 => simp only [List.getElem?_toArray, List.getElem?_cons_succ, List.getElem?_cons_zero]; rfl
    case hQ9 => exact fun _ _ _ h => h
    case hy9 => exact Or.inl ⟨by rfl, by intro w; go_simp⟩
    try simp only [Act.put, List.setIfInBounds_toArray, List.set_cons_zero, List.set_cons_succ]
    refine wpAny_done (by kernel_rfl) ?_ _
    go_wp2_with fail
    go_ret
    obtain rfl := R3.out.len
    exact ⟨A3, c3, rfl, R3.out, W5.out, fun y hy h0 => by have := F3.out y hy h0; omega⟩

set_option maxRecDepth 100000 in
theorem bopZ (w : World) (key : List UInt8) (num : Int) (A A' : Option Addr) (n c n' c' : Nat) (hk : key.length = 32) : Calls Tryd.prog 13 #[.pointer none, .agg (key.map cellOf).toArray, .int .i64 num, .slice A n c, .slice A' n' c'] w fun e w' => e = .returned (.tuple #[.slice none 0 0, .bool false]) ∧ Below w.heap.size w w' := by
  generalize key.map cellOf = kc
  go_enter Tryd.func13, Tryd.ntmps13
  go_wp2_with fail
  go_ret2
  exact ⟨rfl, alloc_below w _⟩
set_option maxRecDepth 100000 in
theorem bopN {w : World} {g : Nat} (key : List UInt8) (num : Int) (A A' : Option Addr) (n c n' c' : Nat) (hk : key.length = 32) (hn : num < 0) : Calls Tryd.prog 13 #[.pointer (some ⟨g, 0, none⟩), .agg (key.map cellOf).toArray, .int .i64 num, .slice A n c, .slice A' n' c'] w fun e w' => e = .returned (.tuple #[.slice none 0 0, .bool false]) ∧ Below w.heap.size w w' := by
  have d0 : decide (num < 0) = true := decide_eq_true hn
  generalize key.map cellOf = kc
  go_enter Tryd.func13, Tryd.ntmps13
  go_wp2_with fail
  go_ret2
  exact ⟨rfl, alloc_below w _⟩

set_option maxRecDepth 100000 in
set_option maxHeartbeats 4000000 in
theorem bopR {w : World} {g : Nat} {A A' : Option Addr} {n c n' c' : Nat} {ad b : List UInt8} (key : List UInt8) (num : Int) (hg : Blk w g 53 [.pointer none]) (h32 : key.length = 32) (hn0 : 0 ≤ num) (hn1 : num ≤ 9223372036854775807) (hra : Rd w A n c ad) (hrb : Rd w A' n' c' b) (hna : n ≤ 3000) (hnb : n' ≤ 4000) :
    Calls Tryd.prog 13 #[.pointer (some ⟨g, 0, none⟩), .agg (key.map cellOf).toArray, .int .i64 num, .slice A n c, .slice A' n' c'] w (RetP w (Ae.opened key (Bx.nonce num) ad b, Ae.opens key (Bx.nonce num) ad b)) := by
  obtain ⟨out, hout⟩ : ∃ l, l = Ae.opened key (Bx.nonce num) ad b := ⟨_, rfl⟩
  obtain ⟨ok, hok⟩ : ∃ l, l = Ae.opens key (Bx.nonce num) ad b := ⟨_, rfl⟩
  rw [← hout, ← hok]
  obtain ⟨kc, hkc⟩ : ∃ kc, kc = key.map cellOf := ⟨_, rfl⟩
  obtain ⟨nc, hnc⟩ : ∃ nc, nc = (Bx.nonce num).map cellOf := ⟨_, rfl⟩
  have CS : Hid (∀ W, Rd W A n c ad → Rd W A' n' c' b → Calls Tryd.prog 27 #[.agg kc.toArray, .agg nc.toArray, .slice A n c, .slice A' n' c'] W fun e w' => ∃ A n c, e = .returned (.tuple #[.slice A n c, .bool ok]) ∧ Rd w' A n c out ∧ Below W.heap.size W w' ∧ ∀ x, A = some x → 0 < n → W.heap.size ≤ x.block) := fun W h1 h2 => by
    rw [hkc, hnc, hout, hok]
    exact open_new key (Bx.nonce num) h32 (Bx.nonce_length num) h1 h2 (by omega) (by omega)
  have CT : Hid (∀ W, Calls Tryd.prog 25 #[.int .i64 num] W fun e w' => e = .returned (.agg nc.toArray) ∧ Below W.heap.size W w') := fun W => by
    obtain ⟨m, rfl⟩ := Int.eq_ofNat_of_zero_le hn0
    rw [hnc]
    exact twelve_any m W (by omega)
  have IK : Hid ((Tryd.prog.info? 34).map (·.size) = some kc.length) := by unfold Hid; rw [hkc, List.length_map, h32]; kernel_rfl
  have d0 : decide (num < 0) = false := decide_eq_false (by omega)
  have HBG := Lib.hid hg
  have hgl := hg.lt
  have HRA := Lib.hid hra
  have HRB := Lib.hid hrb
  rw [← hkc]
  clear hg hra hrb hkc hnc hout hok h32
  go_enter Tryd.func13, Tryd.ntmps13
  go_upto_region 1 with (fail)
  obtain ⟨w0, hw0⟩ : ∃ w0, w0 = w.alloc (Obj.cells kc.toArray 34) := ⟨_, rfl⟩
  have B0 : Hid (Blk w0 w.heap.size 34 kc) := by unfold Hid; rw [hw0]; exact Blk.new w _ _
  have W0 : Hid (Below w.heap.size w w0) := by unfold Hid; rw [hw0]; exact alloc_below w _
  change Code.wp _ _ _ _ (w.alloc (Obj.cells kc.toArray 34))
  rw [← hw0]
  clear hw0
  obtain ⟨q, hq⟩ : ∃ q, q = w.heap.size := ⟨_, rfl⟩
  rw [← hq] at B0
  rw [← hq]
  clear hq
  have c0 : w0.cell? ⟨g, 0, none⟩ = some (.pointer none) := (HBG.out.below W0.out hgl).cell 0
  go_upto_region 5 with (fail)
  clear c0
  refine wp_region_any (by kernel_rfl) ?_
  change wpAny _ _ _ _ _ _ _ (World.drew _)
  replace B0 := Lib.hid B0.out.drew
  replace W0 : Hid (Below w.heap.size w w0.drew) := W0.out.drew
  generalize w0.drew = w2 at *
  refine wpAny_take (i := 1) (oi := ?oi10) (v := .int .i64 num) ?hi10 (by kernel_rfl) (by kernel_rfl) (by kernel_rfl) ?hQ10 ?hy10 ?rest10
  case hi10 => simp only [List.getElem?_toArray, List.getElem?_cons_succ, List.getElem?_cons_zero]; rfl
  case hQ10 => exact fun _ _ _ h => h
  case hy10 => exact Or.inl ⟨by rfl, by intro w; go_simp⟩
  try simp only [Act.put, List.setIfInBounds_toArray, List.set_cons_zero, List.set_cons_succ]
  refine wpAny_take (i := 3) (oi := ?oi11) (v := .slice A n c) ?hi11 (by kernel_rfl) (by kernel_rfl) (by kernel_rfl) ?hQ11 ?hy11 ?rest11
  case hi11 => simp only [List.getElem?_toArray, List.getElem?_cons_succ, List.getElem?_cons_zero]; rfl
  case hQ11 => exact fun _ _ _ h => h
  case hy11 => exact Or.inl ⟨by rfl, by intro w; go_simp⟩
  try simp only [Act.put, List.setIfInBounds_toArray, List.set_cons_zero, List.set_cons_succ]
  refine wpAny_take (i := 4) (oi := ?oi12) (v := .slice A' n' c') ?hi12 (by kernel_rfl) (by kernel_rfl) (by kernel_rfl) ?hQ12 ?hy12 ?rest12
  case hi12 => simp only [List.getElem?_toArray, List.getElem?_cons_succ, List.getElem?_cons_zero]; rfl
  case hQ12 => exact fun _ _ _ h => h
  case hy12 => exact Or.inl ⟨by rfl, by intro w; go_simp⟩
  try simp only [Act.put, List.setIfInBounds_toArray, List.set_cons_zero, List.set_cons_succ]
  refine phaseL (fun i => []) (fun d a w' => ∃ x36 x38 : Value, a = { tmps := #[.pointer (some ⟨g, 0, none⟩), .agg kc.toArray, .int .i64 num, .slice A n c, .slice A' n' c', undef, .pointer (some ⟨q, 0, none⟩), undef, undef, undef, .slice none 0 0, .bool false, .bool false, .pointer (some ⟨g, 0, none⟩), .bool false, .bool false, .int .i64 num, .bool false, .bool false, .bool false, .pointer (some ⟨g, 0, none⟩), .pointer (some ⟨g, 0, none⟩), .pointer (some ⟨g, 0, none⟩), .pointer none, .bool false, undef, undef, undef, undef, undef, undef, undef, undef, undef, undef, undef, x36, .int .i64 num, x38, .slice A n c, .slice A' n' c', undef, undef, undef], defers := [] } ∧ Hid (Below w2.heap.size w2 w') ∧ (d 0 = true → x36 = .agg kc.toArray) ∧ (d 2 = true → x38 = .agg nc.toArray)) [0, 2] ?step13 5 2 [0, 2] _ _ _ rfl (by decide) (fun _ h => h) (Fits.of (by kernel_rfl)) ?init13 ?fin13
  case init13 => refine ⟨_, _, rfl, Below.refl _ _, ?_, ?_⟩ <;> (intro h; exact absurd h (by decide))
  case step13 =>
    intro i hi d a v13 hI hdi hdeps
    obtain ⟨x36, x38, rfl, BW, h0, h2⟩ := hI
    have hsw := BW.out.size
    simp only [List.mem_cons, List.not_mem_nil, or_false] at hi
    rcases hi with rfl | rfl
    · refine wpOp_step (o := ?os14) ?hos14 (fun K hK => ?_)
      case hos14 => simp only [List.getElem?_toArray, List.getElem?_cons_succ, List.getElem?_cons_zero]; rfl
      refine step_loadW rfl 34 (.tmp 6) rfl q 0 rfl kc _ Tryd.underlying34 rfl IK.out (B0.out.below BW.out B0.out.lt).cells (hK _ _ ?_)
      clear hK K
      try simp only [Act.put, List.setIfInBounds_toArray, List.set_cons_zero, List.set_cons_succ]
      exact ⟨_, _, rfl, BW, fun _ => rfl, fun a => by first | exact h2 (by simpa using a) | rfl⟩
    · refine wpOp_step (o := ?os15) ?hos15 (fun K hK => ?_)
      case hos15 => simp only [List.getElem?_toArray, List.getElem?_cons_succ, List.getElem?_cons_zero]; rfl
      go_simp
      refine (CT.out v13).mono ?_
      rintro e u13 ⟨rfl, hX⟩
      refine hK _ _ ?_
      clear hK K
      try simp only [Act.put, List.setIfInBounds_toArray, List.set_cons_zero, List.set_cons_succ]
      exact ⟨_, _, rfl, BW.out.trans (hX.mono hsw), fun a => by first | exact h0 (by simpa using a) | rfl, fun _ => rfl⟩
  case fin13 =>
    intro a v13 hI
    obtain ⟨x36, x38, rfl, BW, h0, h2⟩ := hI
    obtain rfl := h0 (by decide)
    obtain rfl := h2 (by decide)
    have W3 := Lib.hid (W0.out.trans (BW.out.mono W0.out.size))
    clear h0 h2 BW W0 B0
    try dsimp only
    refine wpAny_ready (rs := [5]) (by kernel_rfl) (by simp) ?_
    refine AllReady.cons (o := ?p17) ?q17 (fun K hK => ?_) AllReady.nil
    case q17 => simp only [List.getElem?_toArray, List.getElem?_cons_succ, List.getElem?_cons_zero]; rfl
    go_simp
    refine (CS.out _ (HRA.out.below W3.out) (HRB.out.below W3.out)).mono ?_
    rintro e w5 ⟨A3, n3, c3, rfl, hR, hX, hF⟩
    refine hK _ _ ?_
    clear hK K
    try simp only [Act.put, List.setIfInBounds_toArray, List.set_cons_zero, List.set_cons_succ]
    have R3 := Lib.hid hR
    have F3 := Lib.hid hF
    have hs3 := W3.out.size
    have W5 := Lib.hid (W3.out.trans (hX.mono hs3))
    clear hR hF hX
    refine wpAny_take (i := 6) (oi := ?oi18) (v := .slice A3 n3 c3) ?hi18 (by kernel_rfl) (by kernel_rfl) (by kernel_rfl) ?hQ18 ?hy18 ?rest18
    case hi18 => simp only [List.getElem?_toArray, List.getElem?_cons_succ, List.getElem?_cons_zero]; rfl
    case hQ18 => exact fun _ _ _ h => h
    case hy18 => exact Or.inl ⟨by rfl, by intro w; go_simp⟩
    try simp only [Act.put, List.setIfInBounds_toArray, List.set_cons_zero, List.set_cons_succ]
    refine wpAny_take (i := 7) (oi := ?oi19) (v := .bool ok) ?hi19 (by kernel_rfl) (by kernel_rfl) (by kernel_rfl) ?hQ19 ?hy19 ?rest19
    case hi19 => simp only [List.getElem?_toArray, List.getElem?_cons_succ, List.getElem?_cons_zero]; rfl
    case hQ19 => exact fun _ _ _ h => h
    case hy19 => exact Or.inl ⟨by rfl, by intro w; go_simp⟩
    try simp only [Act.put, List.setIfInBounds_toArray, List.set_cons_zero, List.set_cons_succ]
    refine wpAny_take (i := 8) (oi := ?oi20) (v := .slice A3 n3 c3) ?hi20 (by kernel_rfl) (by kernel_rfl) (by kernel_rfl) ?hQ20 ?hy20 ?rest20
    case hi20 => simp only [List.getElem?_toArray, List.getElem?_cons_succ, List.getElem?_cons_zero]; rfl
    case hQ20 => exact fun _ _ _ h => h
    case hy20 => exact Or.inl ⟨by rfl, by intro w; go_simp⟩
    try simp only [Act.put, List.setIfInBounds_toArray, List.set_cons_zero, List.set_cons_succ]
    refine wpAny_take (i := 9) (oi := ?oi21) (v := .bool ok) ?hi21 (by kernel_rfl) (by kernel_rfl) (by kernel_rfl) ?hQ21 ?hy21 ?rest21
    case hi21 => simp only [List.getElem?_toArray, List.getElem?_cons_succ, List.getElem?_cons_zero]; rfl
    case hQ21 => exact fun _ _ _ h => h
    case hy21 => exact Or.inl ⟨by rfl, by intro w; go_simp⟩
    try simp only [Act.put, List.setIfInBounds_toArray, List.set_cons_zero, List.set_cons_succ]
    refine wpAny_done (by kernel_rfl) ?_ _
    go_wp2_with fail
    go_ret2
    exact ⟨A3, n3, c3, rfl, R3.out, W5.out, fun y hy h0 => by have := F3.out y hy h0; omega⟩

set_option maxRecDepth 100000 in
set_option maxHeartbeats 4000000 in
theorem bslI {w : World} {g k t r1 r2 r3 : Nat} {s : Int} {a : Nat} {S : List Bx.SNote} {B L : List Bx.BNote} {ES EB EL : List (Value × Value)} {M : Nat → Prop} {A A' : Option Addr} {n c n' c' : Nat} {ad b : List UInt8} (key : List UInt8) (num : Int) (J : BxJ w g k t r1 r2 r3 s a S B L ES EB EL M) (hG : Gl w) (hM2 : ∀ b, M b → 2 ≤ b) (ha : a ≤ 900000) (h32 : key.length = 32) (hn0 : 0 ≤ num) (hn1 : num ≤ 9223372036854775807) (hra : Rd w A n c ad) (hrb : Rd w A' n' c' b) (hoa : Off M A n) (hob : Off M A' n') (hnb : n' ≤ 3000) :
    Calls Tryd.prog 12 #[.pointer (some ⟨g, 0, none⟩), .agg (key.map cellOf).toArray, .int .i64 num, .slice A n c, .slice A' n' c'] w (RetS BxAt w g M (Tap.tape s a (n' + 16)) (.ideal s (a + (n' + 16)) (⟨key, num, ad, b, Tap.tape s a (n' + 16)⟩ :: S) B L)) := by
  obtain ⟨kc, hkc⟩ : ∃ kc, kc = key.map cellOf := ⟨_, rfl⟩
  obtain ⟨out, hout⟩ : ∃ l, l = Tap.tape s a (n' + 16) := ⟨_, rfl⟩
  rw [← hout]
  have LO : Hid (out.length = n' + 16) := by unfold Hid; rw [hout, Tap.tape_length]
  have mt := J.mem t (.inr (.inr (.inl rfl)))
  have mr := J.mem r1 (.inr (.inr (.inr (.inl rfl))))
  have CS : Hid (∀ W, Below w.heap.size w W → Calls Tryd.prog 23 #[.pointer (some ⟨k, 0, none⟩), .agg kc.toArray, .int .i64 num, .slice A n c, .slice A' n' c'] W fun e w' => ∃ A3 c3 M', e = .returned (.slice A3 (n' + 16) c3) ∧ Rd w' A3 (n' + 16) c3 out ∧ (∀ x : Addr, A3 = some x → w.heap.size ≤ x.block ∧ ¬ M' x.block) ∧ BxAt w' g (.ideal s (a + (n' + 16)) (⟨key, num, ad, b, out⟩ :: S) B L) M' ∧ (∀ b, M' b → M b ∨ w.heap.size ≤ b) ∧ Fr M w w') := fun W hW => by
    have JW := J.keep hW.size fun b hb => hW.block b (J.lt b hb)
    obtain ⟨x1, x2, x3, x4, x5, x6, x7, x8, x9, x10, x11, x12, x13, x14, x15⟩ := J.ne
    rw [hkc]
    refine (bseal_any key num (hG.below hW hG.size) (hM2 t mt) JW.bk JW.tp JW.mS h32 (by omega) hn1 (hra.below hW) (hrb.below hW) (fun x hx h0 h => hoa x hx h0 (by rw [h]; exact mt)) (fun x hx h0 h => hob x hx h0 (by rw [h]; exact mt)) hnb (by omega) x6 x10 x7).mono ?_
    rintro e w' ⟨A3, c3, A4, c4, E', rfl, h1, h2, h3, h4, h5, h6, h7, h8, h9⟩
    rw [← hout] at h1 h8
    have hsW := hW.size
    refine ⟨A3, c3, _, rfl, h1, fun x hx => ⟨by have := h2 x hx; omega, ?_⟩, ⟨k, t, r1, r2, r3, E', EB, EL, JW.sealed h32 h9 h6 h7 h8 h3 hnb (fun x hx h0 => h4 x hx h0)⟩, ?_, (Fr.of_below hW).trans (h9.mono (by rintro b (rfl | rfl) <;> assumption))⟩
    · rintro (h | ⟨y, hy, h0, h⟩)
      · have := J.lt _ h
        have := h2 x hx
        omega
      · exact h5 x y hx hy h0 h
    · rintro b (h | ⟨y, hy, h0, rfl⟩)
      · exact .inl h
      · have := h4 y hy h0
        exact .inr (by omega)
  have IK : Hid ((Tryd.prog.info? 34).map (·.size) = some kc.length) := by unfold Hid; rw [hkc, List.length_map, h32]; kernel_rfl
  have d0 : decide (num < 0) = false := decide_eq_false (by omega)
  have HBG := Lib.hid J.bg
  have hgl := J.bg.lt
  rw [← hkc]
  clear J hG hM2 hra hrb hoa hob hkc hout h32 mt mr
  go_enter Tryd.func12, Tryd.ntmps12
  go_upto_region 1 with (fail)
  obtain ⟨w0, hw0⟩ : ∃ w0, w0 = w.alloc (Obj.cells kc.toArray 34) := ⟨_, rfl⟩
  have B0 : Hid (Blk w0 w.heap.size 34 kc) := by unfold Hid; rw [hw0]; exact Blk.new w _ _
  have W0 : Hid (Below w.heap.size w w0) := by unfold Hid; rw [hw0]; exact alloc_below w _
  change Code.wp _ _ _ _ (w.alloc (Obj.cells kc.toArray 34))
  rw [← hw0]
  clear hw0
  obtain ⟨q, hq⟩ : ∃ q, q = w.heap.size := ⟨_, rfl⟩
  rw [← hq] at B0
  rw [← hq]
  clear hq
  have c0 : w0.cell? ⟨g, 0, none⟩ = some (.pointer (some ⟨k, 0, none⟩)) := (HBG.out.below W0.out hgl).cell 0
  go_upto_region 4 with (fail)
  clear c0
  refine wp_region_any (by kernel_rfl) ?_
  change wpAny _ _ _ _ _ _ _ (World.drew _)
  replace B0 := Lib.hid B0.out.drew
  replace W0 : Hid (Below w.heap.size w w0.drew) := W0.out.drew
  generalize w0.drew = w2 at *
  have BG := Lib.hid (HBG.out.below W0.out hgl)
  refine wpAny_take (i := 0) (oi := ?oi22) (v := .pointer (some ⟨g, 0, none⟩)) ?hi22 (by kernel_rfl) (by kernel_rfl) (by kernel_rfl) ?hQ22 ?hy22 ?rest22
  case hi22 => simp only [List.getElem?_toArray, List.getElem?_cons_succ, List.getElem?_cons_zero]; rfl
  case hQ22 => exact fun _ _ _ h => h
  case hy22 => exact Or.inl ⟨by rfl, by intro w; go_simp⟩
  try simp only [Act.put, List.setIfInBounds_toArray, List.set_cons_zero, List.set_cons_succ]
  refine wpAny_take (i := 1) (oi := ?oi23) (v := .pointer (some ⟨g, 0, none⟩)) ?hi23 (by kernel_rfl) (by kernel_rfl) (by kernel_rfl) ?hQ23 ?hy23 ?rest23
  case hi23 => simp only [List.getElem?_toArray, List.getElem?_cons_succ, List.getElem?_cons_zero]; rfl
  case hQ23 => exact fun _ _ _ h => h
  case hy23 => exact Or.inl ⟨by rfl, by intro w; go_simp⟩
  try simp only [Act.put, List.setIfInBounds_toArray, List.set_cons_zero, List.set_cons_succ]
  refine wpAny_take (i := 2) (oi := ?oi24) (v := .pointer (some ⟨g, 0, none⟩)) ?hi24 (by kernel_rfl) (by kernel_rfl) (by kernel_rfl) ?hQ24 ?hy24 ?rest24
  case hi24 => simp only [List.getElem?_toArray, List.getElem?_cons_succ, List.getElem?_cons_zero]; rfl
  case hQ24 => exact fun _ _ _ h => h
  case hy24 => exact Or.inl ⟨by rfl, by intro w; go_simp⟩
  try simp only [Act.put, List.setIfInBounds_toArray, List.set_cons_zero, List.set_cons_succ]
  refine wpAny_take (i := 5) (oi := ?oi25) (v := .int .i64 num) ?hi25 (by kernel_rfl) (by kernel_rfl) (by kernel_rfl) ?hQ25 ?hy25 ?rest25
  case hi25 => simp only [List.getElem?_toArray, List.getElem?_cons_succ, List.getElem?_cons_zero]; rfl
  case hQ25 => exact fun _ _ _ h => h
  case hy25 => exact Or.inl ⟨by rfl, by intro w; go_simp⟩
  try simp only [Act.put, List.setIfInBounds_toArray, List.set_cons_zero, List.set_cons_succ]
  refine wpAny_take (i := 6) (oi := ?oi26) (v := .slice A n c) ?hi26 (by kernel_rfl) (by kernel_rfl) (by kernel_rfl) ?hQ26 ?hy26 ?rest26
  case hi26 => simp only [List.getElem?_toArray, List.getElem?_cons_succ, List.getElem?_cons_zero]; rfl
  case hQ26 => exact fun _ _ _ h => h
  case hy26 => exact Or.inl ⟨by rfl, by intro w; go_simp⟩
  try simp only [Act.put, List.setIfInBounds_toArray, List.set_cons_zero, List.set_cons_succ]
  refine wpAny_take (i := 7) (oi := ?oi27) (v := .slice A' n' c') ?hi27 (by kernel_rfl) (by kernel_rfl) (by kernel_rfl) ?hQ27 ?hy27 ?rest27
  case hi27 => simp only [List.getElem?_toArray, List.getElem?_cons_succ, List.getElem?_cons_zero]; rfl
  case hQ27 => exact fun _ _ _ h => h
  case hy27 => exact Or.inl ⟨by rfl, by intro w; go_simp⟩
  try simp only [Act.put, List.setIfInBounds_toArray, List.set_cons_zero, List.set_cons_succ]
  refine phaseL (fun i => []) (fun d a w' => ∃ x27 x28 : Value, a = { tmps := #[.pointer (some ⟨g, 0, none⟩), .agg kc.toArray, .int .i64 num, .slice A n c, .slice A' n' c', undef, .pointer (some ⟨q, 0, none⟩), undef, undef, undef, .slice none 0 0, .bool false, .pointer (some ⟨g, 0, none⟩), .bool false, .bool false, .int .i64 num, .bool false, .bool false, .bool true, .pointer (some ⟨g, 0, none⟩), .pointer (some ⟨g, 0, none⟩), .pointer (some ⟨g, 0, none⟩), .pointer (some ⟨k, 0, none⟩), .bool true, .pointer (some ⟨g, 0, none⟩), .pointer (some ⟨g, 0, none⟩), .pointer (some ⟨g, 0, none⟩), x27, x28, .int .i64 num, .slice A n c, .slice A' n' c', undef, undef, undef, undef, undef, undef, undef], defers := [] } ∧ Hid (Below w2.heap.size w2 w') ∧ (d 3 = true → x27 = .pointer (some ⟨k, 0, none⟩)) ∧ (d 4 = true → x28 = .agg kc.toArray)) [3, 4] ?step28 2 2 [3, 4] _ _ _ rfl (by decide) (fun _ h => h) (Fits.of (by kernel_rfl)) ?init28 ?fin28
  case init28 => refine ⟨_, _, rfl, Below.refl _ _, ?_, ?_⟩ <;> (intro h; exact absurd h (by decide))
  case step28 =>
    intro i hi d a v28 hI hdi hdeps
    obtain ⟨x27, x28, rfl, BW, h3, h4⟩ := hI
    have hsw := BW.out.size
    simp only [List.mem_cons, List.not_mem_nil, or_false] at hi
    rcases hi with rfl | rfl
    · have c0 : v28.cell? ⟨g, 0, none⟩ = some (.pointer (some ⟨k, 0, none⟩)) := (BG.out.below BW.out BG.out.lt).cell 0
      refine wpOp_step (o := ?os29) ?hos29 (fun K hK => ?_)
      case hos29 => simp only [List.getElem?_toArray, List.getElem?_cons_succ, List.getElem?_cons_zero]; rfl
      go_simp
      refine hK _ _ ?_
      clear hK K
      try simp only [Act.put, List.setIfInBounds_toArray, List.set_cons_zero, List.set_cons_succ]
      exact ⟨_, _, rfl, BW, fun _ => rfl, fun a => by first | exact h4 (by simpa using a) | rfl⟩
    · refine wpOp_step (o := ?os30) ?hos30 (fun K hK => ?_)
      case hos30 => simp only [List.getElem?_toArray, List.getElem?_cons_succ, List.getElem?_cons_zero]; rfl
      refine step_loadW rfl 34 (.tmp 6) rfl q 0 rfl kc _ Tryd.underlying34 rfl IK.out (B0.out.below BW.out B0.out.lt).cells (hK _ _ ?_)
      clear hK K
      try simp only [Act.put, List.setIfInBounds_toArray, List.set_cons_zero, List.set_cons_succ]
      exact ⟨_, _, rfl, BW, fun a => by first | exact h3 (by simpa using a) | rfl, fun _ => rfl⟩
  case fin28 =>
    intro a v28 hI
    obtain ⟨x27, x28, rfl, BW, h3, h4⟩ := hI
    obtain rfl := h3 (by decide)
    obtain rfl := h4 (by decide)
    have W3 := Lib.hid (W0.out.trans (BW.out.mono W0.out.size))
    clear h3 h4 BW W0 B0 BG
    try dsimp only
    refine wpAny_ready (rs := [8]) (by kernel_rfl) (by simp) ?_
    refine AllReady.cons (o := ?p31) ?q31 (fun K hK => ?_) AllReady.nil
    case q31 => simp only [List.getElem?_toArray, List.getElem?_cons_succ, List.getElem?_cons_zero]; rfl
    go_simp
    refine (CS.out _ W3.out).mono ?_
    rintro e w5 ⟨A3, c3, M', rfl, h1, h2, h3, h4, h5⟩
    refine hK _ _ ?_
    clear hK K
    try simp only [Act.put, List.setIfInBounds_toArray, List.set_cons_zero, List.set_cons_succ]
    have R1 := Lib.hid h1
    have R2 := Lib.hid h2
    have R3 := Lib.hid h3
    have R4 := Lib.hid h4
    have R5 := Lib.hid h5
    clear h1 h2 h3 h4 h5
    refine wpAny_take (i := 9) (oi := ?oi32) (v := .slice A3 (n' + 16) c3) ?hi32 (by kernel_rfl) (by kernel_rfl) (by kernel_rfl) ?hQ32 ?hy32 ?rest32
    case hi32 => simp only [List.getElem?_toArray, List.getElem?_cons_succ, List.getElem?_cons_zero]; rfl
    case hQ32 => exact fun _ _ _ h => h
    case hy32 => exact Or.inl ⟨by rfl, by intro w; go_simp⟩
    try simp only [Act.put, List.setIfInBounds_toArray, List.set_cons_zero, List.set_cons_succ]
    refine wpAny_done (by kernel_rfl) ?_ _
    go_wp2_with fail
    go_ret
    refine ⟨A3, c3, M', by rw [LO.out]; rfl, by rw [LO.out]; exact R1.out, R3.out, R5.out, R4.out, R2.out⟩

set_option maxRecDepth 100000 in
theorem bsealL {w : World} {k : Nat} {A A' : Option Addr} {n c n' c' : Nat} (kc : List Value) (num : Int) (hn : 3000 < n') (hn2 : n' ≤ 1000000) : Calls Tryd.prog 23 #[.pointer (some ⟨k, 0, none⟩), .agg kc.toArray, .int .i64 num, .slice A n c, .slice A' n' c'] w fun e w' => e = .returned (.slice none 0 0) ∧ Below w.heap.size w w' := by
  have d0 : decide ((3000 : Int) < (n' : Int)) = true := decide_eq_true (by omega)
  go_enter Tryd.func23, Tryd.ntmps23
  go_wp2_with fail
  go_ret
  exact ⟨rfl, alloc_below w _⟩
set_option maxRecDepth 100000 in
set_option maxHeartbeats 4000000 in
theorem bslL {w : World} {g k t r1 r2 r3 : Nat} {s : Int} {a : Nat} {S : List Bx.SNote} {B L : List Bx.BNote} {ES EB EL : List (Value × Value)} {M : Nat → Prop} (key : List UInt8) (num : Int) (A A' : Option Addr) (n c n' c' : Nat) (J : BxJ w g k t r1 r2 r3 s a S B L ES EB EL M) (h32 : key.length = 32) (hn : 3000 < n') (hn2 : n' ≤ 1000000) :
    Calls Tryd.prog 12 #[.pointer (some ⟨g, 0, none⟩), .agg (key.map cellOf).toArray, .int .i64 num, .slice A n c, .slice A' n' c'] w fun e w' => e = .returned (.slice none 0 0) ∧ Below w.heap.size w w' := by
  by_cases hneg : num < 0
  · exact bslN key num A A' n c n' c' h32 hneg
  obtain ⟨kc, hkc⟩ : ∃ kc, kc = key.map cellOf := ⟨_, rfl⟩
  have IK : Hid ((Tryd.prog.info? 34).map (·.size) = some kc.length) := by unfold Hid; rw [hkc, List.length_map, h32]; kernel_rfl
  have d0 : decide (num < 0) = false := decide_eq_false hneg
  have HBG := Lib.hid J.bg
  have hgl := J.bg.lt
  rw [← hkc]
  clear J hkc h32 hneg
  go_enter Tryd.func12, Tryd.ntmps12
  go_upto_region 1 with (fail)
  obtain ⟨w0, hw0⟩ : ∃ w0, w0 = w.alloc (Obj.cells kc.toArray 34) := ⟨_, rfl⟩
  have B0 : Hid (Blk w0 w.heap.size 34 kc) := by unfold Hid; rw [hw0]; exact Blk.new w _ _
  have W0 : Hid (Below w.heap.size w w0) := by unfold Hid; rw [hw0]; exact alloc_below w _
  change Code.wp _ _ _ _ (w.alloc (Obj.cells kc.toArray 34))
  rw [← hw0]
  clear hw0
  obtain ⟨q, hq⟩ : ∃ q, q = w.heap.size := ⟨_, rfl⟩
  rw [← hq] at B0
  rw [← hq]
  clear hq
  have c0 : w0.cell? ⟨g, 0, none⟩ = some (.pointer (some ⟨k, 0, none⟩)) := (HBG.out.below W0.out hgl).cell 0
  go_upto_region 4 with (fail)
  clear c0
  refine wp_region_any (by kernel_rfl) ?_
  change wpAny _ _ _ _ _ _ _ (World.drew _)
  replace B0 := Lib.hid B0.out.drew
  replace W0 : Hid (Below w.heap.size w w0.drew) := W0.out.drew
  generalize w0.drew = w2 at *
  have BG := Lib.hid (HBG.out.below W0.out hgl)
  refine wpAny_take (i := 0) (oi := ?oi33) (v := .pointer (some ⟨g, 0, none⟩)) ?hi33 (by kernel_rfl) (by kernel_rfl) (by kernel_rfl) ?hQ33 ?hy33 ?rest33
  case hi33 => simp only [List.getElem?_toArray, List.getElem?_cons_succ, List.getElem?_cons_zero]; rfl
  case hQ33 => exact fun _ _ _ h => h
  case hy33 => exact Or.inl ⟨by rfl, by intro w; go_simp⟩
  try simp only [Act.put, List.setIfInBounds_toArray, List.set_cons_zero, List.set_cons_succ]
  refine wpAny_take (i := 1) (oi := ?oi34) (v := .pointer (some ⟨g, 0, none⟩)) ?hi34 (by kernel_rfl) (by kernel_rfl) (by kernel_rfl) ?hQ34 ?hy34 ?rest34
  case hi34 => simp only [List.getElem?_toArray, List.getElem?_cons_succ, List.getElem?_cons_zero]; rfl
  case hQ34 => exact fun _ _ _ h => h
  case hy34 => exact Or.inl ⟨by rfl, by intro w; go_simp⟩
  try simp only [Act.put, List.setIfInBounds_toArray, List.set_cons_zero, List.set_cons_succ]
  refine wpAny_take (i := 2) (oi := ?oi35) (v := .pointer (some ⟨g, 0, none⟩)) ?hi35 (by kernel_rfl) (by kernel_rfl) (by kernel_rfl) ?hQ35 ?hy35 ?rest35
  case hi35 => simp only [List.getElem?_toArray, List.getElem?_cons_succ, List.getElem?_cons_zero]; rfl
  case hQ35 => exact fun _ _ _ h => h
  case hy35 => exact Or.inl ⟨by rfl, by intro w; go_simp⟩
  try simp only [Act.put, List.setIfInBounds_toArray, List.set_cons_zero, List.set_cons_succ]
  refine wpAny_take (i := 5) (oi := ?oi36) (v := .int .i64 num) ?hi36 (by kernel_rfl) (by kernel_rfl) (by kernel_rfl) ?hQ36 ?hy36 ?rest36
  case hi36 => simp only [List.getElem?_toArray, List.getElem?_cons_succ, List.getElem?_cons_zero]; rfl
  case hQ36 => exact fun _ _ _ h => h
  case hy36 => exact Or.inl ⟨by rfl, by intro w; go_simp⟩
  try simp only [Act.put, List.setIfInBounds_toArray, List.set_cons_zero, List.set_cons_succ]
  refine wpAny_take (i := 6) (oi := ?oi37) (v := .slice A n c) ?hi37 (by kernel_rfl) (by kernel_rfl) (by kernel_rfl) ?hQ37 ?hy37 ?rest37
  case hi37 => simp only [List.getElem?_toArray, List.getElem?_cons_succ, List.getElem?_cons_zero]; rfl
  case hQ37 => exact fun _ _ _ h => h
  case hy37 => exact Or.inl ⟨by rfl, by intro w; go_simp⟩
  try simp only [Act.put, List.setIfInBounds_toArray, List.set_cons_zero, List.set_cons_succ]
  refine wpAny_take (i := 7) (oi := ?oi38) (v := .slice A' n' c') ?hi38 (by kernel_rfl) (by kernel_rfl) (by kernel_rfl) ?hQ38 ?hy38 ?rest38
  case hi38 => simp only [List.getElem?_toArray, List.getElem?_cons_succ, List.getElem?_cons_zero]; rfl
  case hQ38 => exact fun _ _ _ h => h
  case hy38 => exact Or.inl ⟨by rfl, by intro w; go_simp⟩
  try simp only [Act.put, List.setIfInBounds_toArray, List.set_cons_zero, List.set_cons_succ]
  refine phaseL (fun i => []) (fun d a w' => ∃ x27 x28 : Value, a = { tmps := #[.pointer (some ⟨g, 0, none⟩), .agg kc.toArray, .int .i64 num, .slice A n c, .slice A' n' c', undef, .pointer (some ⟨q, 0, none⟩), undef, undef, undef, .slice none 0 0, .bool false, .pointer (some ⟨g, 0, none⟩), .bool false, .bool false, .int .i64 num, .bool false, .bool false, .bool true, .pointer (some ⟨g, 0, none⟩), .pointer (some ⟨g, 0, none⟩), .pointer (some ⟨g, 0, none⟩), .pointer (some ⟨k, 0, none⟩), .bool true, .pointer (some ⟨g, 0, none⟩), .pointer (some ⟨g, 0, none⟩), .pointer (some ⟨g, 0, none⟩), x27, x28, .int .i64 num, .slice A n c, .slice A' n' c', undef, undef, undef, undef, undef, undef, undef], defers := [] } ∧ Hid (Below w2.heap.size w2 w') ∧ (d 3 = true → x27 = .pointer (some ⟨k, 0, none⟩)) ∧ (d 4 = true → x28 = .agg kc.toArray)) [3, 4] ?step39 2 2 [3, 4] _ _ _ rfl (by decide) (fun _ h => h) (Fits.of (by kernel_rfl)) ?init39 ?fin39
  case init39 => refine ⟨_, _, rfl, Below.refl _ _, ?_, ?_⟩ <;> (intro h; exact absurd h (by decide))
  case step39 =>
    intro i hi d a v39 hI hdi hdeps
    obtain ⟨x27, x28, rfl, BW, h3, h4⟩ := hI
    have hsw := BW.out.size
    simp only [List.mem_cons, List.not_mem_nil, or_false] at hi
    rcases hi with rfl | rfl
    · have c0 : v39.cell? ⟨g, 0, none⟩ = some (.pointer (some ⟨k, 0, none⟩)) := (BG.out.below BW.out BG.out.lt).cell 0
      refine wpOp_step (o := ?os40) ?hos40 (fun K hK => ?_)
      case hos40 => simp only [List.getElem?_toArray, List.getElem?_cons_succ, List.getElem?_cons_zero]; rfl
      go_simp
      refine hK _ _ ?_
      clear hK K
      try simp only [Act.put, List.setIfInBounds_toArray, List.set_cons_zero, List.set_cons_succ]
      exact ⟨_, _, rfl, BW, fun _ => rfl, fun a => by first | exact h4 (by simpa using a) | rfl⟩
    · refine wpOp_step (o := ?os41) ?hos41 (fun K hK => ?_)
      case hos41 => simp only [List.getElem?_toArray, List.getElem?_cons_succ, List.getElem?_cons_zero]; rfl
      refine step_loadW rfl 34 (.tmp 6) rfl q 0 rfl kc _ Tryd.underlying34 rfl IK.out (B0.out.below BW.out B0.out.lt).cells (hK _ _ ?_)
      clear hK K
      try simp only [Act.put, List.setIfInBounds_toArray, List.set_cons_zero, List.set_cons_succ]
      exact ⟨_, _, rfl, BW, fun a => by first | exact h3 (by simpa using a) | rfl, fun _ => rfl⟩
  case fin39 =>
    intro a v39 hI
    obtain ⟨x27, x28, rfl, BW, h3, h4⟩ := hI
    obtain rfl := h3 (by decide)
    obtain rfl := h4 (by decide)
    have W3 := Lib.hid (W0.out.trans (BW.out.mono W0.out.size))
    clear h3 h4 BW W0 B0 BG
    try dsimp only
    refine wpAny_ready (rs := [8]) (by kernel_rfl) (by simp) ?_
    refine AllReady.cons (o := ?p42) ?q42 (fun K hK => ?_) AllReady.nil
    case q42 => simp only [List.getElem?_toArray, List.getElem?_cons_succ, List.getElem?_cons_zero]; rfl
    go_simp
    refine (bsealL kc num hn hn2).mono ?_
    rintro e w5 ⟨rfl, hX⟩
    refine hK _ _ ?_
    clear hK K
    try simp only [Act.put, List.setIfInBounds_toArray, List.set_cons_zero, List.set_cons_succ]
    have hs3 := W3.out.size
    have W5 := Lib.hid (W3.out.trans (hX.mono hs3))
    clear hX
    refine wpAny_take (i := 9) (oi := ?oi43) (v := .slice none 0 0) ?hi43 (by kernel_rfl) (by kernel_rfl) (by kernel_rfl) ?hQ43 ?hy43 ?rest43
    case hi43 => simp only [List.getElem?_toArray, List.getElem?_cons_succ, List.getElem?_cons_zero]; rfl
    case hQ43 => exact fun _ _ _ h => h
    case hy43 => exact Or.inl ⟨by rfl, by intro w; go_simp⟩
    try simp only [Act.put, List.setIfInBounds_toArray, List.set_cons_zero, List.set_cons_succ]
    refine wpAny_done (by kernel_rfl) ?_ _
    go_wp2_with fail
    go_ret
    exact ⟨rfl, W5.out⟩

set_option maxRecDepth 100000 in
set_option maxHeartbeats 4000000 in
theorem bopI {w : World} {g k t r1 r2 r3 : Nat} {s : Int} {a : Nat} {S : List Bx.SNote} {B L : List Bx.BNote} {ES EB EL : List (Value × Value)} {M : Nat → Prop} {A A' : Option Addr} {n c n' c' : Nat} {ad b : List UInt8} (key : List UInt8) (num : Int) (J : BxJ w g k t r1 r2 r3 s a S B L ES EB EL M) (h32 : key.length = 32) (hn0 : 0 ≤ num) (hn1 : num ≤ 9223372036854775807) (hra : Rd w A n c ad) (hrb : Rd w A' n' c' b) (hna : n ≤ 3000) (hnb : n' ≤ 4000) :
    Calls Tryd.prog 13 #[.pointer (some ⟨g, 0, none⟩), .agg (key.map cellOf).toArray, .int .i64 num, .slice A n c, .slice A' n' c'] w (RetP w (Bx.openBy key num ad b S)) := by
  obtain ⟨kc, hkc⟩ : ∃ kc, kc = key.map cellOf := ⟨_, rfl⟩
  obtain ⟨ol, ok, hol⟩ : ∃ ol ok, Bx.openBy key num ad b S = (ol, ok) := ⟨_, _, rfl⟩
  rw [hol]
  have mr := J.mem r1 (.inr (.inr (.inr (.inl rfl))))
  have CS : Hid (∀ W, Below w.heap.size w W → Calls Tryd.prog 26 #[.pointer (some ⟨k, 0, none⟩), .agg kc.toArray, .int .i64 num, .slice A n c, .slice A' n' c'] W (RetP W (ol, ok))) := fun W hW => by
    have JW := J.keep hW.size fun b hb => hW.block b (J.lt b hb)
    obtain ⟨A3, n3, c3, h1, h2, h3⟩ := JW.found (key := key) (num := num) (ad := ad) (c := b) h32 (by omega) hn1 (by have := hra.len; omega) (by have := hrb.len; omega)
    rw [hol] at h1 h2
    rw [hkc]
    exact bopen_any key num ok JW.bk (JW.lt r1 mr) h32 (hra.below hW) (hrb.below hW) h1 h2 (by omega)
  have IK : Hid ((Tryd.prog.info? 34).map (·.size) = some kc.length) := by unfold Hid; rw [hkc, List.length_map, h32]; kernel_rfl
  have d0 : decide (num < 0) = false := decide_eq_false (by omega)
  have HBG := Lib.hid J.bg
  have hgl := J.bg.lt
  rw [← hkc]
  clear J hra hrb hkc hol h32 mr
  go_enter Tryd.func13, Tryd.ntmps13
  go_upto_region 1 with (fail)
  obtain ⟨w0, hw0⟩ : ∃ w0, w0 = w.alloc (Obj.cells kc.toArray 34) := ⟨_, rfl⟩
  have B0 : Hid (Blk w0 w.heap.size 34 kc) := by unfold Hid; rw [hw0]; exact Blk.new w _ _
  have W0 : Hid (Below w.heap.size w w0) := by unfold Hid; rw [hw0]; exact alloc_below w _
  change Code.wp _ _ _ _ (w.alloc (Obj.cells kc.toArray 34))
  rw [← hw0]
  clear hw0
  obtain ⟨q, hq⟩ : ∃ q, q = w.heap.size := ⟨_, rfl⟩
  rw [← hq] at B0
  rw [← hq]
  clear hq
  have c0 : w0.cell? ⟨g, 0, none⟩ = some (.pointer (some ⟨k, 0, none⟩)) := (HBG.out.below W0.out hgl).cell 0
  go_upto_region 4 with (fail)
  clear c0
  refine wp_region_any (by kernel_rfl) ?_
  change wpAny _ _ _ _ _ _ _ (World.drew _)
  replace B0 := Lib.hid B0.out.drew
  replace W0 : Hid (Below w.heap.size w w0.drew) := W0.out.drew
  generalize w0.drew = w2 at *
  have BG := Lib.hid (HBG.out.below W0.out hgl)
  refine wpAny_take (i := 0) (oi := ?oi44) (v := .pointer (some ⟨g, 0, none⟩)) ?hi44 (by kernel_rfl) (by kernel_rfl) (by kernel_rfl) ?hQ44 ?hy44 ?rest44
  case hi44 => simp only [List.getElem?_toArray, List.getElem?_cons_succ, List.getElem?_cons_zero]; rfl
  case hQ44 => exact fun _ _ _ h => h
  case hy44 => exact Or.inl ⟨by rfl, by intro w; go_simp⟩
  try simp only [Act.put, List.setIfInBounds_toArray, List.set_cons_zero, List.set_cons_succ]
  refine wpAny_take (i := 1) (oi := ?oi45) (v := .pointer (some ⟨g, 0, none⟩)) ?hi45 (by kernel_rfl) (by kernel_rfl) (by kernel_rfl) ?hQ45 ?hy45 ?rest45
  case hi45 => simp only [List.getElem?_toArray, List.getElem?_cons_succ, List.getElem?_cons_zero]; rfl
  case hQ45 => exact fun _ _ _ h => h
  case hy45 => exact Or.inl ⟨by rfl, by intro w; go_simp⟩
  try simp only [Act.put, List.setIfInBounds_toArray, List.set_cons_zero, List.set_cons_succ]
  refine wpAny_take (i := 2) (oi := ?oi46) (v := .pointer (some ⟨g, 0, none⟩)) ?hi46 (by kernel_rfl) (by kernel_rfl) (by kernel_rfl) ?hQ46 ?hy46 ?rest46
  case hi46 => simp only [List.getElem?_toArray, List.getElem?_cons_succ, List.getElem?_cons_zero]; rfl
  case hQ46 => exact fun _ _ _ h => h
  case hy46 => exact Or.inl ⟨by rfl, by intro w; go_simp⟩
  try simp only [Act.put, List.setIfInBounds_toArray, List.set_cons_zero, List.set_cons_succ]
  refine wpAny_take (i := 5) (oi := ?oi47) (v := .int .i64 num) ?hi47 (by kernel_rfl) (by kernel_rfl) (by kernel_rfl) ?hQ47 ?hy47 ?rest47
  case hi47 => simp only [List.getElem?_toArray, List.getElem?_cons_succ, List.getElem?_cons_zero]; rfl
  case hQ47 => exact fun _ _ _ h => h
  case hy47 => exact Or.inl ⟨by rfl, by intro w; go_simp⟩
  try simp only [Act.put, List.setIfInBounds_toArray, List.set_cons_zero, List.set_cons_succ]
  refine wpAny_take (i := 6) (oi := ?oi48) (v := .slice A n c) ?hi48 (by kernel_rfl) (by kernel_rfl) (by kernel_rfl) ?hQ48 ?hy48 ?rest48
  case hi48 => simp only [List.getElem?_toArray, List.getElem?_cons_succ, List.getElem?_cons_zero]; rfl
  case hQ48 => exact fun _ _ _ h => h
  case hy48 => exact Or.inl ⟨by rfl, by intro w; go_simp⟩
  try simp only [Act.put, List.setIfInBounds_toArray, List.set_cons_zero, List.set_cons_succ]
  refine wpAny_take (i := 7) (oi := ?oi49) (v := .slice A' n' c') ?hi49 (by kernel_rfl) (by kernel_rfl) (by kernel_rfl) ?hQ49 ?hy49 ?rest49
  case hi49 => simp only [List.getElem?_toArray, List.getElem?_cons_succ, List.getElem?_cons_zero]; rfl
  case hQ49 => exact fun _ _ _ h => h
  case hy49 => exact Or.inl ⟨by rfl, by intro w; go_simp⟩
  try simp only [Act.put, List.setIfInBounds_toArray, List.set_cons_zero, List.set_cons_succ]
  refine phaseL (fun i => []) (fun d a w' => ∃ x28 x29 : Value, a = { tmps := #[.pointer (some ⟨g, 0, none⟩), .agg kc.toArray, .int .i64 num, .slice A n c, .slice A' n' c', undef, .pointer (some ⟨q, 0, none⟩), undef, undef, undef, .slice none 0 0, .bool false, .bool false, .pointer (some ⟨g, 0, none⟩), .bool false, .bool false, .int .i64 num, .bool false, .bool false, .bool true, .pointer (some ⟨g, 0, none⟩), .pointer (some ⟨g, 0, none⟩), .pointer (some ⟨g, 0, none⟩), .pointer (some ⟨k, 0, none⟩), .bool true, .pointer (some ⟨g, 0, none⟩), .pointer (some ⟨g, 0, none⟩), .pointer (some ⟨g, 0, none⟩), x28, x29, .int .i64 num, .slice A n c, .slice A' n' c', undef, undef, undef, undef, undef, undef, undef, undef, undef, undef, undef], defers := [] } ∧ Hid (Below w2.heap.size w2 w') ∧ (d 3 = true → x28 = .pointer (some ⟨k, 0, none⟩)) ∧ (d 4 = true → x29 = .agg kc.toArray)) [3, 4] ?step50 5 2 [3, 4] _ _ _ rfl (by decide) (fun _ h => h) (Fits.of (by kernel_rfl)) ?init50 ?fin50
  case init50 => refine ⟨_, _, rfl, Below.refl _ _, ?_, ?_⟩ <;> (intro h; exact absurd h (by decide))
  case step50 =>
    intro i hi d a v50 hI hdi hdeps
    obtain ⟨x28, x29, rfl, BW, h3, h4⟩ := hI
    have hsw := BW.out.size
    simp only [List.mem_cons, List.not_mem_nil, or_false] at hi
    rcases hi with rfl | rfl
    · have c0 : v50.cell? ⟨g, 0, none⟩ = some (.pointer (some ⟨k, 0, none⟩)) := (BG.out.below BW.out BG.out.lt).cell 0
      refine wpOp_step (o := ?os51) ?hos51 (fun K hK => ?_)
      case hos51 => simp only [List.getElem?_toArray, List.getElem?_cons_succ, List.getElem?_cons_zero]; rfl
      go_simp
      refine hK _ _ ?_
      clear hK K
      try simp only [Act.put, List.setIfInBounds_toArray, List.set_cons_zero, List.set_cons_succ]
      exact ⟨_, _, rfl, BW, fun _ => rfl, fun a => by first | exact h4 (by simpa using a) | rfl⟩
    · refine wpOp_step (o := ?os52) ?hos52 (fun K hK => ?_)
      case hos52 => simp only [List.getElem?_toArray, List.getElem?_cons_succ, List.getElem?_cons_zero]; rfl
      refine step_loadW rfl 34 (.tmp 6) rfl q 0 rfl kc _ Tryd.underlying34 rfl IK.out (B0.out.below BW.out B0.out.lt).cells (hK _ _ ?_)
      clear hK K
      try simp only [Act.put, List.setIfInBounds_toArray, List.set_cons_zero, List.set_cons_succ]
      exact ⟨_, _, rfl, BW, fun a => by first | exact h3 (by simpa using a) | rfl, fun _ => rfl⟩
  case fin50 =>
    intro a v50 hI
    obtain ⟨x28, x29, rfl, BW, h3, h4⟩ := hI
    obtain rfl := h3 (by decide)
    obtain rfl := h4 (by decide)
    have W3 := Lib.hid (W0.out.trans (BW.out.mono W0.out.size))
    clear h3 h4 BW W0 B0 BG
    try dsimp only
    refine wpAny_ready (rs := [8]) (by kernel_rfl) (by simp) ?_
    refine AllReady.cons (o := ?p53) ?q53 (fun K hK => ?_) AllReady.nil
    case q53 => simp only [List.getElem?_toArray, List.getElem?_cons_succ, List.getElem?_cons_zero]; rfl
    go_simp
    refine (CS.out _ W3.out).mono ?_
    rintro e w5 ⟨A3, n3, c3, rfl, hR, hX, hF⟩
    refine hK _ _ ?_
    clear hK K
    try simp only [Act.put, List.setIfInBounds_toArray, List.set_cons_zero, List.set_cons_succ]
    have R3 := Lib.hid hR
    have F3 := Lib.hid hF
    have hs3 := W3.out.size
    have W5 := Lib.hid (W3.out.trans (hX.mono hs3))
    clear hR hF hX
    refine wpAny_take (i := 9) (oi := ?oi54) (v := .slice A3 n3 c3) ?hi54 (by kernel_rfl) (by kernel_rfl) (by kernel_rfl) ?hQ54 ?hy54 ?rest54
    case hi54 => simp only [List.getElem?_toArray, List.getElem?_cons_succ, List.getElem?_cons_zero]; rfl
    case hQ54 => exact fun _ _ _ h => h
    case hy54 => exact Or.inl ⟨by rfl, by intro w; go_simp⟩
    try simp only [Act.put, List.setIfInBounds_toArray, List.set_cons_zero, List.set_cons_succ]
    refine wpAny_take (i := 10) (oi := ?oi55) (v := .bool ok) ?hi55 (by kernel_rfl) (by kernel_rfl) (by kernel_rfl) ?hQ55 ?hy55 ?rest55
    case hi55 => simp only [List.getElem?_toArray, List.getElem?_cons_succ, List.getElem?_cons_zero]; rfl
    case hQ55 => exact fun _ _ _ h => h
    case hy55 => exact Or.inl ⟨by rfl, by intro w; go_simp⟩
    try simp only [Act.put, List.setIfInBounds_toArray, List.set_cons_zero, List.set_cons_succ]
    refine wpAny_take (i := 11) (oi := ?oi56) (v := .slice A3 n3 c3) ?hi56 (by kernel_rfl) (by kernel_rfl) (by kernel_rfl) ?hQ56 ?hy56 ?rest56
    case hi56 => simp only [List.getElem?_toArray, List.getElem?_cons_succ, List.getElem?_cons_zero]; rfl
    case hQ56 => exact fun _ _ _ h => h
    case hy56 => exact Or.inl ⟨by rfl, by intro w; go_simp⟩
    try simp only [Act.put, List.setIfInBounds_toArray, List.set_cons_zero, List.set_cons_succ]
    refine wpAny_take (i := 12) (oi := ?oi57) (v := .bool ok) ?hi57 (by kernel_rfl) (by kernel_rfl) (by kernel_rfl) ?hQ57 ?hy57 ?rest57
    case hi57 => simp only [List.getElem?_toArray, List.getElem?_cons_succ, List.getElem?_cons_zero]; rfl
    case hQ57 => exact fun _ _ _ h => h
    case hy57 => exact Or.inl ⟨by rfl, by intro w; go_simp⟩
    try simp only [Act.put, List.setIfInBounds_toArray, List.set_cons_zero, List.set_cons_succ]
    refine wpAny_done (by kernel_rfl) ?_ _
    go_wp2_with fail
    go_ret2
    exact ⟨A3, n3, c3, rfl, R3.out, W5.out, fun y hy h0 => by have := F3.out y hy h0; omega⟩
end Go.Proofs.YtpbfeobifpmjbaaDoor
