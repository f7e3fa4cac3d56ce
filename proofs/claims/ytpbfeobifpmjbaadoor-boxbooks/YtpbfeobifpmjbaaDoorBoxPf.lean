/- The landed box: Mark and Label. -/
import Derived.Test.YtpbfeobifpmjbaaDoorBoxPc
namespace Go.Proofs.YtpbfeobifpmjbaaDoor
set_option linter.unusedVariables false
set_option linter.unusedSimpArgs false
set_option maxRecDepth 100000
open Go.RowKit

theorem lookB_app (key b : List UInt8) (n : Bx.BNote) : ∀ (l : List Bx.BNote), Bx.lookB key b (l ++ [n]) = (Bx.lookB key b l).or (if n.key = key ∧ n.b = b then some n.out else none)
  | [] => by simp [Bx.lookB]
  | m :: l => by
    rw [List.cons_append, Bx.lookB, Bx.lookB, lookB_app key b n l]
    split <;> simp
/-- What a book knows. -/
theorem BRel.found {E : List (Value × Value)} {B : List Bx.BNote} (h : BRel E B) {key b hh : List UInt8} (h32 : key.length = 32) (hl : Bx.lookB key b B = some hh) : (∀ v, (mkKey key b, v) ∈ E → v = .agg (hh.map cellOf).toArray) ∧ ∃ v, (mkKey key b, v) ∈ E := by
  refine ⟨fun v hv => ?_, h.is key b h32 (by rw [hl]; simp)⟩
  obtain ⟨k2, b2, h2, e1, e2, e3⟩ := h.of _ hv
  injection e2 with e2 e4
  obtain ⟨rfl, rfl⟩ := mkKey_inj h32 e1 e2
  rw [hl] at e3
  injection e3 with e3
  rw [e4, e3]
theorem BRel.lost {E : List (Value × Value)} {B : List Bx.BNote} (h : BRel E B) {key b : List UInt8} (h32 : key.length = 32) (hl : Bx.lookB key b B = none) : ∀ v, (mkKey key b, v) ∉ E := fun v hv => by
  obtain ⟨k2, b2, h2, e1, e2, e3⟩ := h.of _ hv
  injection e2 with e2 e4
  obtain ⟨rfl, rfl⟩ := mkKey_inj h32 e1 e2
  rw [hl] at e3
  cases e3
/-- A book that notes one more. -/
theorem BRel.more {E E' : List (Value × Value)} {B : List Bx.BNote} (h : BRel E B) {key b out : List UInt8} (h32 : key.length = 32) (hl : Bx.lookB key b B = none) (hE : ∀ p, p ∈ E' ↔ p = (mkKey key b, .agg (out.map cellOf).toArray) ∨ (p ∈ E ∧ p.1 ≠ mkKey key b)) : BRel E' (B ++ [⟨key, b, out⟩]) := by
  constructor
  · intro p hp
    rcases (hE p).1 hp with rfl | ⟨h1, h2⟩
    · exact ⟨key, b, out, h32, rfl, by rw [lookB_app, hl]; simp⟩
    · obtain ⟨k2, b2, o2, e1, e2, e3⟩ := h.of p h1
      exact ⟨k2, b2, o2, e1, e2, by rw [lookB_app, e3]; rfl⟩
  · intro k2 b2 hk2 hx
    by_cases he : key = k2 ∧ b = b2
    · obtain ⟨rfl, rfl⟩ := he
      exact ⟨_, (hE _).2 (.inl rfl)⟩
    · rw [lookB_app, if_neg he, Option.or_none] at hx
      obtain ⟨v, hv⟩ := h.is k2 b2 hk2 hx
      exact ⟨v, (hE _).2 (.inr ⟨hv, fun e => by
        obtain ⟨q1, q2⟩ := mkKey_inj hk2 h32 e
        exact he ⟨q1.symm, q2.symm⟩⟩)⟩
theorem BxJ.turn {w : World} {g k t r1 r2 r3 : Nat} {s : Int} {a : Nat} {S : List Bx.SNote} {B L : List Bx.BNote} {ES EB EL : List (Value × Value)} {M : Nat → Prop} (J : BxJ w g k t r1 r2 r3 s a S B L ES EB EL M) {w' : World} {a2 : Nat} {r : Nat} (hr : r = r2 ∨ r = r3) (hF : Fr (fun b => b = t ∨ b = r) w w') (hT : TapeAt w' t s a2) {B' L' : List Bx.BNote} {EB' EL' : List (Value × Value)} (hB : MapIs 67 w' r2 EB') (hL : MapIs 67 w' r3 EL') (rB : BRel EB' B') (rL : BRel EL' L') (gB : Bx.Good B') (gL : Bx.Good L') :
    BxJ w' g k t r1 r2 r3 s a2 S B' L' ES EB' EL' M := by
  obtain ⟨x1, x2, x3, x4, x5, x6, x7, x8, x9, x10, x11, x12, x13, x14, x15⟩ := J.ne
  have hb : ∀ b, M b → b ≠ t → b ≠ r2 → b ≠ r3 → w'.heap[b]? = w.heap[b]? := fun b hb h1 h2 h3 => hF.block b (J.lt b hb) (by rcases hr with rfl | rfl <;> (rintro (h | h) <;> contradiction))
  exact {
    bg := (hb g (J.mem g (.inl rfl)) x2 x4 x5).trans J.bg
    bk := (hb k (J.mem k (.inr (.inl rfl))) x6 x8 x9).trans J.bk
    tp := hT
    mS := J.mS.keep (hb r1 (J.mem r1 (.inr (.inr (.inr (.inl rfl))))) (Ne.symm x10) x13 x14)
    mB := hB
    mL := hL
    sS := J.sS.keep hF.size fun b hm hx => hb b hm (fun h => hx (.inr (.inr (.inl h)))) (fun h => hx (.inr (.inr (.inr (.inr (.inl h)))))) (fun h => hx (.inr (.inr (.inr (.inr (.inr h))))))
    sB := rB
    sL := rL
    gB := gB
    gL := gL
    ne := J.ne
    mem := J.mem
    lt := fun b h => Nat.lt_of_lt_of_le (J.lt b h) hF.size }
/-- 'note' in the first book. -/
theorem noteB {w : World} {g k t r1 r2 r3 : Nat} {s : Int} {a : Nat} {S : List Bx.SNote} {B L : List Bx.BNote} {ES EB EL : List (Value × Value)} {M : Nat → Prop} (J : BxJ w g k t r1 r2 r3 s a S B L ES EB EL M) {key b : List UInt8} (hG : Gl w) (hM2 : ∀ b, M b → 2 ≤ b) (ha : a ≤ 1000000) (h32 : key.length = 32) (hb : b.length ≤ 100000) :
    Calls Tryd.prog 28 #[.pointer (some ⟨k, 0, none⟩), .map (some r2), mkKey key b] w fun e w' => e = .returned (.agg ((Bx.bookOut s a key b B).map cellOf).toArray) ∧ BxAt w' g (.ideal s (Bx.bookAt a key b B) S (Bx.bookNext s a key b B) L) M ∧ Fr M w w' := by
  have mt := J.mem t (.inr (.inr (.inl rfl)))
  have mr := J.mem r2 (.inr (.inr (.inr (.inr (.inl rfl)))))
  obtain ⟨x1, x2, x3, x4, x5, x6, x7, x8, x9, x10, x11, x12, x13, x14, x15⟩ := J.ne
  cases hl : Bx.lookB key b B with
  | some hh =>
    obtain ⟨h1, h2⟩ := J.sB.found h32 hl
    refine (note_old (k := k) J.mB h32 hb (Bx.lookB_length J.gB hl) h1 h2).mono ?_
    rintro e w' ⟨rfl, hX⟩
    refine ⟨by simp [Bx.bookOut, hl], ?_, Fr.of_below hX⟩
    have e1 : Bx.bookAt a key b B = a := by simp [Bx.bookAt, hl]
    have e2 : Bx.bookNext s a key b B = B := by simp [Bx.bookNext, hl]
    rw [e1, e2]
    exact ⟨k, t, r1, r2, r3, ES, EB, EL, J.keep hX.size fun b hb => hX.block b (J.lt b hb)⟩
  | none =>
    refine (note_new hG (hM2 t mt) J.bk J.tp J.mB h32 hb (J.sB.lost h32 hl) ha x6 x11).mono ?_
    rintro e w' ⟨rfl, h1, ⟨E', h2, h3⟩, h4⟩
    refine ⟨by simp [Bx.bookOut, hl], ?_, h4.mono (by rintro b (rfl | rfl) <;> assumption)⟩
    have e1 : Bx.bookAt a key b B = a + 32 := by simp [Bx.bookAt, hl]
    have e2 : Bx.bookNext s a key b B = B ++ [⟨key, b, Tap.tape s a 32⟩] := by simp [Bx.bookNext, hl]
    have e3 := Bx.bookNext_good s a key b B J.gB
    rw [e2] at e3
    rw [e1, e2]
    exact ⟨k, t, r1, r2, r3, ES, E', EL, J.turn (.inl rfl) h4 h1 h2 (J.mL.keep (h4.block r3 (J.lt r3 (J.mem r3 (.inr (.inr (.inr (.inr (.inr rfl))))))) (by rintro (h | h) <;> omega))) (J.sB.more h32 hl h3) J.sL e3 J.gL⟩
/-- 'note' in the second book. -/
theorem noteL {w : World} {g k t r1 r2 r3 : Nat} {s : Int} {a : Nat} {S : List Bx.SNote} {B L : List Bx.BNote} {ES EB EL : List (Value × Value)} {M : Nat → Prop} (J : BxJ w g k t r1 r2 r3 s a S B L ES EB EL M) {key b : List UInt8} (hG : Gl w) (hM2 : ∀ b, M b → 2 ≤ b) (ha : a ≤ 1000000) (h32 : key.length = 32) (hb : b.length ≤ 100000) :
    Calls Tryd.prog 28 #[.pointer (some ⟨k, 0, none⟩), .map (some r3), mkKey key b] w fun e w' => e = .returned (.agg ((Bx.bookOut s a key b L).map cellOf).toArray) ∧ BxAt w' g (.ideal s (Bx.bookAt a key b L) S B (Bx.bookNext s a key b L)) M ∧ Fr M w w' := by
  have mt := J.mem t (.inr (.inr (.inl rfl)))
  have mr := J.mem r3 (.inr (.inr (.inr (.inr (.inr rfl)))))
  obtain ⟨x1, x2, x3, x4, x5, x6, x7, x8, x9, x10, x11, x12, x13, x14, x15⟩ := J.ne
  cases hl : Bx.lookB key b L with
  | some hh =>
    obtain ⟨h1, h2⟩ := J.sL.found h32 hl
    refine (note_old (k := k) J.mL h32 hb (Bx.lookB_length J.gL hl) h1 h2).mono ?_
    rintro e w' ⟨rfl, hX⟩
    refine ⟨by simp [Bx.bookOut, hl], ?_, Fr.of_below hX⟩
    have e1 : Bx.bookAt a key b L = a := by simp [Bx.bookAt, hl]
    have e2 : Bx.bookNext s a key b L = L := by simp [Bx.bookNext, hl]
    rw [e1, e2]
    exact ⟨k, t, r1, r2, r3, ES, EB, EL, J.keep hX.size fun b hb => hX.block b (J.lt b hb)⟩
  | none =>
    refine (note_new hG (hM2 t mt) J.bk J.tp J.mL h32 hb (J.sL.lost h32 hl) ha x6 x12).mono ?_
    rintro e w' ⟨rfl, h1, ⟨E', h2, h3⟩, h4⟩
    refine ⟨by simp [Bx.bookOut, hl], ?_, h4.mono (by rintro b (rfl | rfl) <;> assumption)⟩
    have e1 : Bx.bookAt a key b L = a + 32 := by simp [Bx.bookAt, hl]
    have e2 : Bx.bookNext s a key b L = L ++ [⟨key, b, Tap.tape s a 32⟩] := by simp [Bx.bookNext, hl]
    have e3 := Bx.bookNext_good s a key b L J.gL
    rw [e2] at e3
    rw [e1, e2]
    exact ⟨k, t, r1, r2, r3, ES, EB, E', J.turn (.inr rfl) h4 h1 (J.mB.keep (h4.block r2 (J.lt r2 (J.mem r2 (.inr (.inr (.inr (.inr (.inl rfl))))))) (by rintro (h | h) <;> omega))) h2 J.sB (J.sL.more h32 hl h3) J.gB e3⟩
theorem zeroBuilt : Tryd.prog.built 34 [] = some (List.replicate 32 (Value.int .u8 0)).toArray := by kernel_rfl

set_option maxRecDepth 100000 in
theorem bmkZ (w : World) (key : List UInt8) (A : Option Addr) (n c : Nat) (hk : key.length = 32) : Calls Tryd.prog 14 #[.pointer none, .agg (key.map cellOf).toArray, .slice A n c] w (RetH w zero32) := by
  have IZ : Hid ((Tryd.prog.info? 34).map (·.size) = some (List.replicate 32 (Value.int .u8 0)).length) := by unfold Hid; rw [List.length_replicate]; kernel_rfl
  have OZ : Hid (∀ v ∈ (List.replicate 32 (Value.int .u8 0)), v.oneCell' = true) := fun v hv => by rw [List.eq_of_mem_replicate hv]; rfl
  have HZ : Hid (zero32.map cellOf = (List.replicate 32 (Value.int .u8 0))) := by unfold Hid zero32; rw [List.map_replicate]; rfl
  unfold RetH
  rw [HZ.out]
  generalize key.map cellOf = kc
  go_enter Tryd.func14, Tryd.ntmps14
  go_upto_region 1 with (fail)
  obtain ⟨w0, hw0⟩ : ∃ w0, w0 = (w.alloc (Obj.cells kc.toArray 34)).alloc (Obj.cells (List.replicate 32 (Value.int .u8 0)).toArray 34) := ⟨_, rfl⟩
  have B4 : Hid (Blk w0 w.heap.size 34 kc) := by unfold Hid; rw [hw0]; exact (Blk.new w _ _).alloc _
  have B6 : Hid (Blk w0 (w.heap.size + 1) 34 (List.replicate 32 (Value.int .u8 0))) := by unfold Hid; rw [hw0]; exact Blk.at_new _ _ _ _ _ rfl (by simp)
  have W0 : Hid (Below w.heap.size w w0) := by unfold Hid; rw [hw0]; exact ((Below.refl _ _).alloc (Nat.le_refl _) _).alloc (by simp) _
  have hs0 : w.heap.size + 2 ≤ w0.heap.size := by rw [hw0]; simp
  change Code.wp _ _ _ _ ((w.alloc (Obj.cells kc.toArray 34)).alloc (Obj.cells (List.replicate 32 (Value.int .u8 0)).toArray 34))
  rw [← hw0]
  clear hw0
  go_wp2_with (first
    | (with_reducible refine build_law rfl 34 #[] rfl (List.replicate 32 (Value.int .u8 0)) (by exact zeroBuilt) ?_)
    | (with_reducible refine storeGen_law rfl 34 (.tmp 6) (.tmp 10) rfl (w.heap.size + 1) rfl (List.replicate 32 (Value.int .u8 0)) rfl 34 (List.replicate 32 (Value.int .u8 0)) IZ.out rfl OZ.out w.heap.size w B6.out W0.out (Nat.le_succ _) ?_; intro w1 B7 X1))
  exact bodyPost_ret (results_cell_row rfl _ _ (w.heap.size + 1) 34 (List.replicate 32 (Value.int .u8 0)).toArray (0, 0) _ rfl B7.out Tryd.underlying34 rfl (by rw [IZ.out]; simp)) rfl ⟨rfl, X1.out⟩

set_option maxRecDepth 100000 in
set_option maxHeartbeats 4000000 in
theorem bmkI {w : World} {g k t r1 r2 r3 : Nat} {s : Int} {a : Nat} {S : List Bx.SNote} {B L : List Bx.BNote} {ES EB EL : List (Value × Value)} {M : Nat → Prop} {A : Option Addr} {n c : Nat} {b : List UInt8} (key : List UInt8) (J : BxJ w g k t r1 r2 r3 s a S B L ES EB EL M) (hG : Gl w) (hM2 : ∀ b, M b → 2 ≤ b) (ha : a ≤ 900000) (h32 : key.length = 32) (hrb : Rd w A n c b) (hnb : n ≤ 100000) :
    Calls Tryd.prog 14 #[.pointer (some ⟨g, 0, none⟩), .agg (key.map cellOf).toArray, .slice A n c] w (RetM BxAt w g M (Bx.bookOut s a key b B) (.ideal s (Bx.bookAt a key b B) S (Bx.bookNext s a key b B) L)) := by
  obtain ⟨kc, hkc⟩ : ∃ kc, kc = key.map cellOf := ⟨_, rfl⟩
  obtain ⟨D, hD⟩ : ∃ D, D = (Bx.bookOut s a key b B).map cellOf := ⟨_, rfl⟩
  have hDl : D.length = 32 := by rw [hD, List.length_map, Bx.bookOut_length _ _ _ _ _ J.gB]
  obtain ⟨cs, hcs⟩ : ∃ cs, cs = kc ++ [Value.string ⟨b.toArray⟩] := ⟨_, rfl⟩
  have K32 : kc.length = 32 := by rw [hkc, List.length_map, h32]
  have HBL : Hid (Tryd.prog.built 67 [(0, .agg kc.toArray), (1, .string ⟨b.toArray⟩)] = some cs.toArray) := by unfold Hid; rw [hcs]; exact builtM K32 _
  have CN : Hid (∀ W, Below w.heap.size w W → Calls Tryd.prog 28 #[.pointer (some ⟨k, 0, none⟩), .map (some r2), .agg cs.toArray] W fun e w' => e = .returned (.agg D.toArray) ∧ BxAt w' g (.ideal s (Bx.bookAt a key b B) S (Bx.bookNext s a key b B) L) M ∧ Fr M W w') := fun W hW => by
    have JW := J.keep hW.size fun b hb => hW.block b (J.lt b hb)
    have := noteB JW (key := key) (b := b) (hG.below hW hG.size) hM2 (by omega) h32 (by have := hrb.len; omega)
    rw [hcs, hkc, hD]
    exact this
  have IK : Hid ((Tryd.prog.info? 34).map (·.size) = some kc.length) := by unfold Hid; rw [K32]; kernel_rfl
  have ID : Hid ((Tryd.prog.info? 34).map (·.size) = some D.length) := by unfold Hid; rw [hDl]; kernel_rfl
  have LD : Hid ((List.replicate 32 (Value.int .u8 0)).length = D.length) := by unfold Hid; rw [hDl]; rfl
  have OD : Hid (∀ v ∈ D, v.oneCell' = true) := by unfold Hid; rw [hD]; exact cells_u8 _
  have HBG := Lib.hid J.bg
  have HBK := Lib.hid J.bk
  have hgl := J.bg.lt
  have hkl := J.bk.lt
  have MLT : Hid (∀ b, M b → b < w.heap.size) := J.lt
  have HRB := Lib.hid hrb
  unfold RetM
  rw [← hkc, ← hD]
  clear J hG hM2 hrb hkc hcs hD hDl h32 K32
  go_enter Tryd.func14, Tryd.ntmps14
  go_upto_region 1 with (fail)
  obtain ⟨w0, hw0⟩ : ∃ w0, w0 = (w.alloc (Obj.cells kc.toArray 34)).alloc (Obj.cells (List.replicate 32 (Value.int .u8 0)).toArray 34) := ⟨_, rfl⟩
  have B4 : Hid (Blk w0 w.heap.size 34 kc) := by unfold Hid; rw [hw0]; exact (Blk.new w _ _).alloc _
  have B6 : Hid (Blk w0 (w.heap.size + 1) 34 (List.replicate 32 (Value.int .u8 0))) := by unfold Hid; rw [hw0]; exact Blk.at_new _ _ _ _ _ rfl (by simp)
  have W0 : Hid (Below w.heap.size w w0) := by unfold Hid; rw [hw0]; exact ((Below.refl _ _).alloc (Nat.le_refl _) _).alloc (by simp) _
  have hs0 : w.heap.size + 2 ≤ w0.heap.size := by rw [hw0]; simp
  change Code.wp _ _ _ _ ((w.alloc (Obj.cells kc.toArray 34)).alloc (Obj.cells (List.replicate 32 (Value.int .u8 0)).toArray 34))
  rw [← hw0]
  clear hw0
  have c0 : w0.cell? ⟨g, 0, none⟩ = some (.pointer (some ⟨k, 0, none⟩)) := (HBG.out.below W0.out hgl).cell 0
  go_upto_region 4 with (fail)
  clear c0
  refine wp_region_any (by kernel_rfl) ?_
  change wpAny _ _ _ _ _ _ _ (World.drew _)
  replace B4 := Lib.hid B4.out.drew
  replace B6 := Lib.hid B6.out.drew
  replace W0 : Hid (Below w.heap.size w w0.drew) := W0.out.drew
  replace hs0 : w.heap.size + 2 ≤ w0.drew.heap.size := hs0
  generalize w0.drew = w2 at *
  obtain ⟨q, hq⟩ : ∃ q, q = w.heap.size := ⟨_, rfl⟩
  obtain ⟨q1, hq1⟩ : ∃ q, q = w.heap.size + 1 := ⟨_, rfl⟩
  rw [← hq] at B4
  rw [← hq1] at B6
  rw [← hq1, ← hq]
  have hqa : w.heap.size ≤ q := by omega
  have hqb : w.heap.size ≤ q1 := by omega
  have hqc : w.heap.size + 1 ≤ q1 ∧ q1 ≤ w.heap.size + 1 := by omega
  clear hq hq1
  have BG := Lib.hid (HBG.out.below W0.out hgl)
  have BK := Lib.hid (HBK.out.below W0.out hkl)
  have RB := Lib.hid (HRB.out.below W0.out)
  refine wpAny_take (i := 0) (oi := ?oi1) (v := .pointer (some ⟨g, 0, none⟩)) ?hi1 (by kernel_rfl) (by kernel_rfl) (by kernel_rfl) ?hQ1 ?hy1 ?rest1
  case hi1 => simp only [List.getElem?_toArray, List.getElem?_cons_succ, List.getElem?_cons_zero]; rfl
  case hQ1 => exact fun _ _ _ h => h
  case hy1 => exact Or.inl ⟨by rfl, by intro w; go_simp⟩
  try simp only [Act.put, List.setIfInBounds_toArray, List.set_cons_zero, List.set_cons_succ]
  refine wpAny_take (i := 1) (oi := ?oi2) (v := .pointer (some ⟨g, 0, none⟩)) ?hi2 (by kernel_rfl) (by kernel_rfl) (by kernel_rfl) ?hQ2 ?hy2 ?rest2
  case hi2 => simp only [List.getElem?_toArray, List.getElem?_cons_succ, List.getElem?_cons_zero]; rfl
  case hQ2 => exact fun _ _ _ h => h
  case hy2 => exact Or.inl ⟨by rfl, by intro w; go_simp⟩
  try simp only [Act.put, List.setIfInBounds_toArray, List.set_cons_zero, List.set_cons_succ]
  refine wpAny_take (i := 2) (oi := ?oi3) (v := .pointer (some ⟨g, 0, none⟩)) ?hi3 (by kernel_rfl) (by kernel_rfl) (by kernel_rfl) ?hQ3 ?hy3 ?rest3
  case hi3 => simp only [List.getElem?_toArray, List.getElem?_cons_succ, List.getElem?_cons_zero]; rfl
  case hQ3 => exact fun _ _ _ h => h
  case hy3 => exact Or.inl ⟨by rfl, by intro w; go_simp⟩
  try simp only [Act.put, List.setIfInBounds_toArray, List.set_cons_zero, List.set_cons_succ]
  refine wpAny_take (i := 4) (oi := ?oi4) (v := .pointer (some ⟨g, 0, none⟩)) ?hi4 (by kernel_rfl) (by kernel_rfl) (by kernel_rfl) ?hQ4 ?hy4 ?rest4
  case hi4 => simp only [List.getElem?_toArray, List.getElem?_cons_succ, List.getElem?_cons_zero]; rfl
  case hQ4 => exact fun _ _ _ h => h
  case hy4 => exact Or.inl ⟨by rfl, by intro w; go_simp⟩
  try simp only [Act.put, List.setIfInBounds_toArray, List.set_cons_zero, List.set_cons_succ]
  refine wpAny_take (i := 5) (oi := ?oi5) (v := .pointer (some ⟨g, 0, none⟩)) ?hi5 (by kernel_rfl) (by kernel_rfl) (by kernel_rfl) ?hQ5 ?hy5 ?rest5
  case hi5 => simp only [List.getElem?_toArray, List.getElem?_cons_succ, List.getElem?_cons_zero]; rfl
  case hQ5 => exact fun _ _ _ h => h
  case hy5 => exact Or.inl ⟨by rfl, by intro w; go_simp⟩
  try simp only [Act.put, List.setIfInBounds_toArray, List.set_cons_zero, List.set_cons_succ]
  refine wpAny_take (i := 6) (oi := ?oi6) (v := .pointer (some ⟨g, 0, none⟩)) ?hi6 (by kernel_rfl) (by kernel_rfl) (by kernel_rfl) ?hQ6 ?hy6 ?rest6
  case hi6 => simp only [List.getElem?_toArray, List.getElem?_cons_succ, List.getElem?_cons_zero]; rfl
  case hQ6 => exact fun _ _ _ h => h
  case hy6 => exact Or.inl ⟨by rfl, by intro w; go_simp⟩
  try simp only [Act.put, List.setIfInBounds_toArray, List.set_cons_zero, List.set_cons_succ]
  refine wpAny_take (i := 12) (oi := ?oi7) (v := .slice A n c) ?hi7 (by kernel_rfl) (by kernel_rfl) (by kernel_rfl) ?hQ7 ?hy7 ?rest7
  case hi7 => simp only [List.getElem?_toArray, List.getElem?_cons_succ, List.getElem?_cons_zero]; rfl
  case hQ7 => exact fun _ _ _ h => h
  case hy7 => exact Or.inl ⟨by rfl, by intro w; go_simp⟩
  try simp only [Act.put, List.setIfInBounds_toArray, List.set_cons_zero, List.set_cons_succ]
  refine phaseL (fun i => if i = 8 then [7] else if i = 9 then [8] else if i = 10 then [9] else if i = 14 then [11, 13] else []) (fun d a w' => ∃ x20 x24 x25 x26 x27 x28 x30 x31 : Value, a = { tmps := #[.pointer (some ⟨g, 0, none⟩), .agg kc.toArray, .slice A n c, undef, .pointer (some ⟨q, 0, none⟩), undef, .pointer (some ⟨q1, 0, none⟩), .bool false, .pointer (some ⟨g, 0, none⟩), .bool false, undef, .bool true, .pointer (some ⟨g, 0, none⟩), .pointer (some ⟨g, 0, none⟩), .pointer (some ⟨g, 0, none⟩), .pointer (some ⟨k, 0, none⟩), .bool true, .pointer (some ⟨g, 0, none⟩), .pointer (some ⟨g, 0, none⟩), .pointer (some ⟨g, 0, none⟩), x20, .pointer (some ⟨g, 0, none⟩), .pointer (some ⟨g, 0, none⟩), .pointer (some ⟨g, 0, none⟩), x24, x25, x26, x27, x28, .slice A n c, x30, x31, undef, undef, undef, undef, undef], defers := [] } ∧ Hid (Below w2.heap.size w2 w') ∧ (d 3 = true → x20 = .pointer (some ⟨k, 0, none⟩)) ∧ (d 7 = true → x24 = .pointer (some ⟨k, 0, none⟩)) ∧ (d 8 = true → x25 = .pointer (some ⟨k, 0, none⟩)) ∧ (d 9 = true → x26 = .pointer (some ⟨k, 2, none⟩)) ∧ (d 10 = true → x27 = .map (some r2)) ∧ (d 11 = true → x28 = .agg kc.toArray) ∧ (d 13 = true → x30 = .string ⟨b.toArray⟩) ∧ (d 14 = true → x31 = .agg cs.toArray)) [3, 7, 8, 9, 10, 11, 13, 14] ?step8 2 8 [3, 7, 8, 9, 10, 11, 13, 14] _ _ _ rfl (by decide) (fun _ h => h) (Fits.of (by kernel_rfl)) ?init8 ?fin8
  case init8 => refine ⟨_, _, _, _, _, _, _, _, rfl, Below.refl _ _, ?_, ?_, ?_, ?_, ?_, ?_, ?_, ?_⟩ <;> (intro h; exact absurd h (by decide))
  case step8 =>
    intro i hi d a v8 hI hdi hdeps
    obtain ⟨x20, x24, x25, x26, x27, x28, x30, x31, rfl, BW, h3, h7, h8, h9, h10, h11, h13, h14⟩ := hI
    have hsw := BW.out.size
    simp only [List.mem_cons, List.not_mem_nil, or_false] at hi
    rcases hi with rfl | rfl | rfl | rfl | rfl | rfl | rfl | rfl
    · have c0 : v8.cell? ⟨g, 0, none⟩ = some (.pointer (some ⟨k, 0, none⟩)) := (BG.out.below BW.out BG.out.lt).cell 0
      refine wpOp_step (o := ?os9) ?hos9 (fun K hK => ?_)
      case hos9 => simp only [List.getElem?_toArray, List.getElem?_cons_succ, List.getElem?_cons_zero]; rfl
      go_simp
      refine hK _ _ ?_
      clear hK K
      try simp only [Act.put, List.setIfInBounds_toArray, List.set_cons_zero, List.set_cons_succ]
      exact ⟨_, _, _, _, _, _, _, _, rfl, BW, fun _ => rfl, fun a => by first | exact h7 (by simpa using a) | rfl, fun a => by first | exact h8 (by simpa using a) | rfl, fun a => by first | exact h9 (by simpa using a) | rfl, fun a => by first | exact h10 (by simpa using a) | rfl, fun a => by first | exact h11 (by simpa using a) | rfl, fun a => by first | exact h13 (by simpa using a) | rfl, fun a => by first | exact h14 (by simpa using a) | rfl⟩
    · have c0 : v8.cell? ⟨g, 0, none⟩ = some (.pointer (some ⟨k, 0, none⟩)) := (BG.out.below BW.out BG.out.lt).cell 0
      refine wpOp_step (o := ?os10) ?hos10 (fun K hK => ?_)
      case hos10 => simp only [List.getElem?_toArray, List.getElem?_cons_succ, List.getElem?_cons_zero]; rfl
      go_simp
      refine hK _ _ ?_
      clear hK K
      try simp only [Act.put, List.setIfInBounds_toArray, List.set_cons_zero, List.set_cons_succ]
      exact ⟨_, _, _, _, _, _, _, _, rfl, BW, fun a => by first | exact h3 (by simpa using a) | rfl, fun _ => rfl, fun a => by first | exact h8 (by simpa using a) | rfl, fun a => by first | exact h9 (by simpa using a) | rfl, fun a => by first | exact h10 (by simpa using a) | rfl, fun a => by first | exact h11 (by simpa using a) | rfl, fun a => by first | exact h13 (by simpa using a) | rfl, fun a => by first | exact h14 (by simpa using a) | rfl⟩
    · obtain rfl := h7 (hdeps 7 (by simp))
      refine wpOp_step (o := ?os11) ?hos11 (fun K hK => ?_)
      case hos11 => simp only [List.getElem?_toArray, List.getElem?_cons_succ, List.getElem?_cons_zero]; rfl
      go_simp
      refine hK _ _ ?_
      clear hK K
      try simp only [Act.put, List.setIfInBounds_toArray, List.set_cons_zero, List.set_cons_succ]
      exact ⟨_, _, _, _, _, _, _, _, rfl, BW, fun a => by first | exact h3 (by simpa using a) | rfl, fun a => by first | exact h7 (by simpa using a) | rfl, fun _ => rfl, fun a => by first | exact h9 (by simpa using a) | rfl, fun a => by first | exact h10 (by simpa using a) | rfl, fun a => by first | exact h11 (by simpa using a) | rfl, fun a => by first | exact h13 (by simpa using a) | rfl, fun a => by first | exact h14 (by simpa using a) | rfl⟩
    · obtain rfl := h8 (hdeps 8 (by simp))
      refine wpOp_step (o := ?os12) ?hos12 (fun K hK => ?_)
      case hos12 => simp only [List.getElem?_toArray, List.getElem?_cons_succ, List.getElem?_cons_zero]; rfl
      go_simp
      refine hK _ _ ?_
      clear hK K
      try simp only [Act.put, List.setIfInBounds_toArray, List.set_cons_zero, List.set_cons_succ]
      exact ⟨_, _, _, _, _, _, _, _, rfl, BW, fun a => by first | exact h3 (by simpa using a) | rfl, fun a => by first | exact h7 (by simpa using a) | rfl, fun a => by first | exact h8 (by simpa using a) | rfl, fun _ => rfl, fun a => by first | exact h10 (by simpa using a) | rfl, fun a => by first | exact h11 (by simpa using a) | rfl, fun a => by first | exact h13 (by simpa using a) | rfl, fun a => by first | exact h14 (by simpa using a) | rfl⟩
    · obtain rfl := h9 (hdeps 9 (by simp))
      have c0 : v8.cell? ⟨k, 2, none⟩ = some (.map (some r2)) := (BK.out.below BW.out BK.out.lt).cell 2
      refine wpOp_step (o := ?os13) ?hos13 (fun K hK => ?_)
      case hos13 => simp only [List.getElem?_toArray, List.getElem?_cons_succ, List.getElem?_cons_zero]; rfl
      go_simp
      refine hK _ _ ?_
      clear hK K
      try simp only [Act.put, List.setIfInBounds_toArray, List.set_cons_zero, List.set_cons_succ]
      exact ⟨_, _, _, _, _, _, _, _, rfl, BW, fun a => by first | exact h3 (by simpa using a) | rfl, fun a => by first | exact h7 (by simpa using a) | rfl, fun a => by first | exact h8 (by simpa using a) | rfl, fun a => by first | exact h9 (by simpa using a) | rfl, fun _ => rfl, fun a => by first | exact h11 (by simpa using a) | rfl, fun a => by first | exact h13 (by simpa using a) | rfl, fun a => by first | exact h14 (by simpa using a) | rfl⟩
    · refine wpOp_step (o := ?os14) ?hos14 (fun K hK => ?_)
      case hos14 => simp only [List.getElem?_toArray, List.getElem?_cons_succ, List.getElem?_cons_zero]; rfl
      refine step_loadW rfl 34 (.tmp 4) rfl q 0 rfl kc _ Tryd.underlying34 rfl IK.out (B4.out.below BW.out B4.out.lt).cells (hK _ _ ?_)
      clear hK K
      try simp only [Act.put, List.setIfInBounds_toArray, List.set_cons_zero, List.set_cons_succ]
      exact ⟨_, _, _, _, _, _, _, _, rfl, BW, fun a => by first | exact h3 (by simpa using a) | rfl, fun a => by first | exact h7 (by simpa using a) | rfl, fun a => by first | exact h8 (by simpa using a) | rfl, fun a => by first | exact h9 (by simpa using a) | rfl, fun a => by first | exact h10 (by simpa using a) | rfl, fun _ => rfl, fun a => by first | exact h13 (by simpa using a) | rfl, fun a => by first | exact h14 (by simpa using a) | rfl⟩
    · have hcv := conv_bytes (RB.out.below BW.out)
      refine wpOp_step (o := ?os15) ?hos15 (fun K hK => ?_)
      case hos15 => simp only [List.getElem?_toArray, List.getElem?_cons_succ, List.getElem?_cons_zero]; rfl
      go_simp
      refine hK _ _ ?_
      clear hK K
      try simp only [Act.put, List.setIfInBounds_toArray, List.set_cons_zero, List.set_cons_succ]
      exact ⟨_, _, _, _, _, _, _, _, rfl, BW, fun a => by first | exact h3 (by simpa using a) | rfl, fun a => by first | exact h7 (by simpa using a) | rfl, fun a => by first | exact h8 (by simpa using a) | rfl, fun a => by first | exact h9 (by simpa using a) | rfl, fun a => by first | exact h10 (by simpa using a) | rfl, fun a => by first | exact h11 (by simpa using a) | rfl, fun _ => rfl, fun a => by first | exact h14 (by simpa using a) | rfl⟩
    · obtain rfl := h11 (hdeps 11 (by simp))
      obtain rfl := h13 (hdeps 13 (by simp))
      refine wpOp_step (o := ?os16) ?hos16 (fun K hK => ?_)
      case hos16 => simp only [List.getElem?_toArray, List.getElem?_cons_succ, List.getElem?_cons_zero]; rfl
      refine step_build rfl 67 #[(0, .tmp 28), (1, .tmp 30)] rfl cs (by simp only [List.map_toArray, List.map_cons, List.map_nil]; exact HBL.out) (hK _ _ ?_)
      clear hK K
      try simp only [Act.put, List.setIfInBounds_toArray, List.set_cons_zero, List.set_cons_succ]
      exact ⟨_, _, _, _, _, _, _, _, rfl, BW, fun a => by first | exact h3 (by simpa using a) | rfl, fun a => by first | exact h7 (by simpa using a) | rfl, fun a => by first | exact h8 (by simpa using a) | rfl, fun a => by first | exact h9 (by simpa using a) | rfl, fun a => by first | exact h10 (by simpa using a) | rfl, fun a => by first | exact h11 (by simpa using a) | rfl, fun a => by first | exact h13 (by simpa using a) | rfl, fun _ => rfl⟩
  case fin8 =>
    intro a v8 hI
    obtain ⟨x20, x24, x25, x26, x27, x28, x30, x31, rfl, BW, h3, h7, h8, h9, h10, h11, h13, h14⟩ := hI
    obtain rfl := h3 (by decide)
    obtain rfl := h7 (by decide)
    obtain rfl := h8 (by decide)
    obtain rfl := h9 (by decide)
    obtain rfl := h10 (by decide)
    obtain rfl := h11 (by decide)
    obtain rfl := h13 (by decide)
    obtain rfl := h14 (by decide)
    have W3 := Lib.hid (W0.out.trans (BW.out.mono W0.out.size))
    have C6 := Lib.hid (B6.out.below BW.out B6.out.lt)
    clear h3 h7 h8 h9 h10 h11 h13 h14 BW W0 BG BK B4 B6
    try dsimp only
    refine wpAny_ready (rs := [15]) (by kernel_rfl) (by simp) ?_
    refine AllReady.cons (o := ?p17) ?q17 (fun K hK => ?_) AllReady.nil
    case q17 => simp only [List.getElem?_toArray, List.getElem?_cons_succ, List.getElem?_cons_zero]; rfl
    go_simp
    refine (CN.out _ W3.out).mono ?_
    rintro e w5 ⟨rfl, hP, hF⟩
    refine hK _ _ ?_
    clear hK K
    try simp only [Act.put, List.setIfInBounds_toArray, List.set_cons_zero, List.set_cons_succ]
    have P5 := Lib.hid hP
    have F5 : Hid (Fr M w w5) := (Fr.of_below W3.out).trans hF
    have C7 : Hid (Blk w5 q1 34 (List.replicate 32 (Value.int .u8 0))) := hF.blk C6.out (fun h => by have := MLT.out _ h; omega)
    clear hP hF C6
    refine wpAny_ready (rs := [16]) (by kernel_rfl) (by simp) ?_
    refine AllReady.cons (o := ?p18) ?q18 (fun K hK => ?_) AllReady.nil
    case q18 => simp only [List.getElem?_toArray, List.getElem?_cons_succ, List.getElem?_cons_zero]; rfl
    refine step_storeAll rfl 34 (.tmp 6) (.tmp 32) rfl q1 rfl D rfl 34 (List.replicate 32 (Value.int .u8 0)) C7.out ID.out LD.out OD.out (hK _ _ ?_)
    clear hK K
    try simp only [Act.put, List.setIfInBounds_toArray, List.set_cons_zero, List.set_cons_succ]
    have F6 : Hid (Fr M w (w5.setRow q1 D.toArray)) := F5.out.cut (below_setRow (Below.refl w.heap.size w5) hqb _) (Nat.le_refl _)
    have P6 : Hid (BxAt (w5.setRow q1 D.toArray) g (.ideal s (Bx.bookAt a key b B) S (Bx.bookNext s a key b B) L) M) := bxAt_keep P5.out (by simp) (fun b hb => setRow_other _ _ _ _ (by have := MLT.out b hb; omega))
    have C8 : Hid (Blk (w5.setRow q1 D.toArray) q1 34 D) := C7.out.row
    generalize w5.setRow q1 D.toArray = w6 at *
    refine wpAny_done (by kernel_rfl) ?_ _
    go_wp2_with fail
    exact bodyPost_ret (results_cell_row rfl _ _ q1 34 D.toArray (0, 0) _ rfl C8.out Tryd.underlying34 rfl (by rw [ID.out]; simp)) rfl ⟨M, rfl, P6.out, F6.out, fun b hb => .inl hb⟩

set_option maxRecDepth 100000 in
theorem blbZ (w : World) (key : List UInt8) (b : List UInt8) (hk : key.length = 32) : Calls Tryd.prog 16 #[.pointer none, .agg (key.map cellOf).toArray, .string ⟨b.toArray⟩] w (RetH w zero32) := by
  have IZ : Hid ((Tryd.prog.info? 34).map (·.size) = some (List.replicate 32 (Value.int .u8 0)).length) := by unfold Hid; rw [List.length_replicate]; kernel_rfl
  have OZ : Hid (∀ v ∈ (List.replicate 32 (Value.int .u8 0)), v.oneCell' = true) := fun v hv => by rw [List.eq_of_mem_replicate hv]; rfl
  have HZ : Hid (zero32.map cellOf = (List.replicate 32 (Value.int .u8 0))) := by unfold Hid zero32; rw [List.map_replicate]; rfl
  unfold RetH
  rw [HZ.out]
  generalize key.map cellOf = kc
  go_enter Tryd.func16, Tryd.ntmps16
  go_upto_region 1 with (fail)
  obtain ⟨w0, hw0⟩ : ∃ w0, w0 = (w.alloc (Obj.cells kc.toArray 34)).alloc (Obj.cells (List.replicate 32 (Value.int .u8 0)).toArray 34) := ⟨_, rfl⟩
  have B4 : Hid (Blk w0 w.heap.size 34 kc) := by unfold Hid; rw [hw0]; exact (Blk.new w _ _).alloc _
  have B6 : Hid (Blk w0 (w.heap.size + 1) 34 (List.replicate 32 (Value.int .u8 0))) := by unfold Hid; rw [hw0]; exact Blk.at_new _ _ _ _ _ rfl (by simp)
  have W0 : Hid (Below w.heap.size w w0) := by unfold Hid; rw [hw0]; exact ((Below.refl _ _).alloc (Nat.le_refl _) _).alloc (by simp) _
  have hs0 : w.heap.size + 2 ≤ w0.heap.size := by rw [hw0]; simp
  change Code.wp _ _ _ _ ((w.alloc (Obj.cells kc.toArray 34)).alloc (Obj.cells (List.replicate 32 (Value.int .u8 0)).toArray 34))
  rw [← hw0]
  clear hw0
  go_wp2_with (first
    | (with_reducible refine build_law rfl 34 #[] rfl (List.replicate 32 (Value.int .u8 0)) (by exact zeroBuilt) ?_)
    | (with_reducible refine storeGen_law rfl 34 (.tmp 6) (.tmp 10) rfl (w.heap.size + 1) rfl (List.replicate 32 (Value.int .u8 0)) rfl 34 (List.replicate 32 (Value.int .u8 0)) IZ.out rfl OZ.out w.heap.size w B6.out W0.out (Nat.le_succ _) ?_; intro w1 B7 X1))
  exact bodyPost_ret (results_cell_row rfl _ _ (w.heap.size + 1) 34 (List.replicate 32 (Value.int .u8 0)).toArray (0, 0) _ rfl B7.out Tryd.underlying34 rfl (by rw [IZ.out]; simp)) rfl ⟨rfl, X1.out⟩

set_option maxRecDepth 100000 in
set_option maxHeartbeats 4000000 in
theorem blbI {w : World} {g k t r1 r2 r3 : Nat} {s : Int} {a : Nat} {S : List Bx.SNote} {B L : List Bx.BNote} {ES EB EL : List (Value × Value)} {M : Nat → Prop} {b : List UInt8} (key : List UInt8) (J : BxJ w g k t r1 r2 r3 s a S B L ES EB EL M) (hG : Gl w) (hM2 : ∀ b, M b → 2 ≤ b) (ha : a ≤ 900000) (h32 : key.length = 32) (hnb : b.length ≤ 100000) :
    Calls Tryd.prog 16 #[.pointer (some ⟨g, 0, none⟩), .agg (key.map cellOf).toArray, .string ⟨b.toArray⟩] w (RetM BxAt w g M (Bx.bookOut s a key b L) (.ideal s (Bx.bookAt a key b L) S B (Bx.bookNext s a key b L))) := by
  obtain ⟨kc, hkc⟩ : ∃ kc, kc = key.map cellOf := ⟨_, rfl⟩
  obtain ⟨D, hD⟩ : ∃ D, D = (Bx.bookOut s a key b L).map cellOf := ⟨_, rfl⟩
  have hDl : D.length = 32 := by rw [hD, List.length_map, Bx.bookOut_length _ _ _ _ _ J.gL]
  obtain ⟨cs, hcs⟩ : ∃ cs, cs = kc ++ [Value.string ⟨b.toArray⟩] := ⟨_, rfl⟩
  have K32 : kc.length = 32 := by rw [hkc, List.length_map, h32]
  have HBL : Hid (Tryd.prog.built 67 [(0, .agg kc.toArray), (1, .string ⟨b.toArray⟩)] = some cs.toArray) := by unfold Hid; rw [hcs]; exact builtM K32 _
  have CN : Hid (∀ W, Below w.heap.size w W → Calls Tryd.prog 28 #[.pointer (some ⟨k, 0, none⟩), .map (some r3), .agg cs.toArray] W fun e w' => e = .returned (.agg D.toArray) ∧ BxAt w' g (.ideal s (Bx.bookAt a key b L) S B (Bx.bookNext s a key b L)) M ∧ Fr M W w') := fun W hW => by
    have JW := J.keep hW.size fun b hb => hW.block b (J.lt b hb)
    have := noteL JW (key := key) (b := b) (hG.below hW hG.size) hM2 (by omega) h32 (by omega)
    rw [hcs, hkc, hD]
    exact this
  have IK : Hid ((Tryd.prog.info? 34).map (·.size) = some kc.length) := by unfold Hid; rw [K32]; kernel_rfl
  have ID : Hid ((Tryd.prog.info? 34).map (·.size) = some D.length) := by unfold Hid; rw [hDl]; kernel_rfl
  have LD : Hid ((List.replicate 32 (Value.int .u8 0)).length = D.length) := by unfold Hid; rw [hDl]; rfl
  have OD : Hid (∀ v ∈ D, v.oneCell' = true) := by unfold Hid; rw [hD]; exact cells_u8 _
  have HBG := Lib.hid J.bg
  have HBK := Lib.hid J.bk
  have hgl := J.bg.lt
  have hkl := J.bk.lt
  have MLT : Hid (∀ b, M b → b < w.heap.size) := J.lt

  unfold RetM
  rw [← hkc, ← hD]
  clear J hG hM2 hkc hcs hD hDl h32 K32
  go_enter Tryd.func16, Tryd.ntmps16
  go_upto_region 1 with (fail)
  obtain ⟨w0, hw0⟩ : ∃ w0, w0 = (w.alloc (Obj.cells kc.toArray 34)).alloc (Obj.cells (List.replicate 32 (Value.int .u8 0)).toArray 34) := ⟨_, rfl⟩
  have B4 : Hid (Blk w0 w.heap.size 34 kc) := by unfold Hid; rw [hw0]; exact (Blk.new w _ _).alloc _
  have B6 : Hid (Blk w0 (w.heap.size + 1) 34 (List.replicate 32 (Value.int .u8 0))) := by unfold Hid; rw [hw0]; exact Blk.at_new _ _ _ _ _ rfl (by simp)
  have W0 : Hid (Below w.heap.size w w0) := by unfold Hid; rw [hw0]; exact ((Below.refl _ _).alloc (Nat.le_refl _) _).alloc (by simp) _
  have hs0 : w.heap.size + 2 ≤ w0.heap.size := by rw [hw0]; simp
  change Code.wp _ _ _ _ ((w.alloc (Obj.cells kc.toArray 34)).alloc (Obj.cells (List.replicate 32 (Value.int .u8 0)).toArray 34))
  rw [← hw0]
  clear hw0
  have c0 : w0.cell? ⟨g, 0, none⟩ = some (.pointer (some ⟨k, 0, none⟩)) := (HBG.out.below W0.out hgl).cell 0
  go_upto_region 4 with (fail)
  clear c0
  refine wp_region_any (by kernel_rfl) ?_
  change wpAny _ _ _ _ _ _ _ (World.drew _)
  replace B4 := Lib.hid B4.out.drew
  replace B6 := Lib.hid B6.out.drew
  replace W0 : Hid (Below w.heap.size w w0.drew) := W0.out.drew
  replace hs0 : w.heap.size + 2 ≤ w0.drew.heap.size := hs0
  generalize w0.drew = w2 at *
  obtain ⟨q, hq⟩ : ∃ q, q = w.heap.size := ⟨_, rfl⟩
  obtain ⟨q1, hq1⟩ : ∃ q, q = w.heap.size + 1 := ⟨_, rfl⟩
  rw [← hq] at B4
  rw [← hq1] at B6
  rw [← hq1, ← hq]
  have hqa : w.heap.size ≤ q := by omega
  have hqb : w.heap.size ≤ q1 := by omega
  have hqc : w.heap.size + 1 ≤ q1 ∧ q1 ≤ w.heap.size + 1 := by omega
  clear hq hq1
  have BG := Lib.hid (HBG.out.below W0.out hgl)
  have BK := Lib.hid (HBK.out.below W0.out hkl)
  refine wpAny_take (i := 0) (oi := ?oi19) (v := .pointer (some ⟨g, 0, none⟩)) ?hi19 (by kernel_rfl) (by kernel_rfl) (by kernel_rfl) ?hQ19 ?hy19 ?rest19
  case hi19 => simp only [List.getElem?_toArray, List.getElem?_cons_succ, List.getElem?_cons_zero]; rfl
  case hQ19 => exact fun _ _ _ h => h
  case hy19 => exact Or.inl ⟨by rfl, by intro w; go_simp⟩
  try simp only [Act.put, List.setIfInBounds_toArray, List.set_cons_zero, List.set_cons_succ]
  refine wpAny_take (i := 1) (oi := ?oi20) (v := .pointer (some ⟨g, 0, none⟩)) ?hi20 (by kernel_rfl) (by kernel_rfl) (by kernel_rfl) ?hQ20 ?hy20 ?rest20
  case hi20 => simp only [List.getElem?_toArray, List.getElem?_cons_succ, List.getElem?_cons_zero]; rfl
  case hQ20 => exact fun _ _ _ h => h
  case hy20 => exact Or.inl ⟨by rfl, by intro w; go_simp⟩
  try simp only [Act.put, List.setIfInBounds_toArray, List.set_cons_zero, List.set_cons_succ]
  refine wpAny_take (i := 2) (oi := ?oi21) (v := .pointer (some ⟨g, 0, none⟩)) ?hi21 (by kernel_rfl) (by kernel_rfl) (by kernel_rfl) ?hQ21 ?hy21 ?rest21
  case hi21 => simp only [List.getElem?_toArray, List.getElem?_cons_succ, List.getElem?_cons_zero]; rfl
  case hQ21 => exact fun _ _ _ h => h
  case hy21 => exact Or.inl ⟨by rfl, by intro w; go_simp⟩
  try simp only [Act.put, List.setIfInBounds_toArray, List.set_cons_zero, List.set_cons_succ]
  refine wpAny_take (i := 4) (oi := ?oi22) (v := .pointer (some ⟨g, 0, none⟩)) ?hi22 (by kernel_rfl) (by kernel_rfl) (by kernel_rfl) ?hQ22 ?hy22 ?rest22
  case hi22 => simp only [List.getElem?_toArray, List.getElem?_cons_succ, List.getElem?_cons_zero]; rfl
  case hQ22 => exact fun _ _ _ h => h
  case hy22 => exact Or.inl ⟨by rfl, by intro w; go_simp⟩
  try simp only [Act.put, List.setIfInBounds_toArray, List.set_cons_zero, List.set_cons_succ]
  refine wpAny_take (i := 5) (oi := ?oi23) (v := .pointer (some ⟨g, 0, none⟩)) ?hi23 (by kernel_rfl) (by kernel_rfl) (by kernel_rfl) ?hQ23 ?hy23 ?rest23
  case hi23 => simp only [List.getElem?_toArray, List.getElem?_cons_succ, List.getElem?_cons_zero]; rfl
  case hQ23 => exact fun _ _ _ h => h
  case hy23 => exact Or.inl ⟨by rfl, by intro w; go_simp⟩
  try simp only [Act.put, List.setIfInBounds_toArray, List.set_cons_zero, List.set_cons_succ]
  refine wpAny_take (i := 6) (oi := ?oi24) (v := .pointer (some ⟨g, 0, none⟩)) ?hi24 (by kernel_rfl) (by kernel_rfl) (by kernel_rfl) ?hQ24 ?hy24 ?rest24
  case hi24 => simp only [List.getElem?_toArray, List.getElem?_cons_succ, List.getElem?_cons_zero]; rfl
  case hQ24 => exact fun _ _ _ h => h
  case hy24 => exact Or.inl ⟨by rfl, by intro w; go_simp⟩
  try simp only [Act.put, List.setIfInBounds_toArray, List.set_cons_zero, List.set_cons_succ]
  refine wpAny_take (i := 12) (oi := ?oi25) (v := .string ⟨b.toArray⟩) ?hi25 (by kernel_rfl) (by kernel_rfl) (by kernel_rfl) ?hQ25 ?hy25 ?rest25
  case hi25 => simp only [List.getElem?_toArray, List.getElem?_cons_succ, List.getElem?_cons_zero]; rfl
  case hQ25 => exact fun _ _ _ h => h
  case hy25 => exact Or.inl ⟨by rfl, by intro w; go_simp⟩
  try simp only [Act.put, List.setIfInBounds_toArray, List.set_cons_zero, List.set_cons_succ]
  refine phaseL (fun i => if i = 8 then [7] else if i = 9 then [8] else if i = 10 then [9] else if i = 14 then [11, 13] else []) (fun d a w' => ∃ x20 x24 x25 x26 x27 x28 x30 x31 : Value, a = { tmps := #[.pointer (some ⟨g, 0, none⟩), .agg kc.toArray, .string ⟨b.toArray⟩, undef, .pointer (some ⟨q, 0, none⟩), undef, .pointer (some ⟨q1, 0, none⟩), .bool false, .pointer (some ⟨g, 0, none⟩), .bool false, undef, .bool true, .pointer (some ⟨g, 0, none⟩), .pointer (some ⟨g, 0, none⟩), .pointer (some ⟨g, 0, none⟩), .pointer (some ⟨k, 0, none⟩), .bool true, .pointer (some ⟨g, 0, none⟩), .pointer (some ⟨g, 0, none⟩), .pointer (some ⟨g, 0, none⟩), x20, .pointer (some ⟨g, 0, none⟩), .pointer (some ⟨g, 0, none⟩), .pointer (some ⟨g, 0, none⟩), x24, x25, x26, x27, x28, .string ⟨b.toArray⟩, x30, x31, undef, undef, undef, undef, undef, undef, undef], defers := [] } ∧ Hid (Below w2.heap.size w2 w') ∧ (d 3 = true → x20 = .pointer (some ⟨k, 0, none⟩)) ∧ (d 7 = true → x24 = .pointer (some ⟨k, 0, none⟩)) ∧ (d 8 = true → x25 = .pointer (some ⟨k, 0, none⟩)) ∧ (d 9 = true → x26 = .pointer (some ⟨k, 3, none⟩)) ∧ (d 10 = true → x27 = .map (some r3)) ∧ (d 11 = true → x28 = .agg kc.toArray) ∧ (d 13 = true → x30 = .string ⟨b.toArray⟩) ∧ (d 14 = true → x31 = .agg cs.toArray)) [3, 7, 8, 9, 10, 11, 13, 14] ?step26 2 8 [3, 7, 8, 9, 10, 11, 13, 14] _ _ _ rfl (by decide) (fun _ h => h) (Fits.of (by kernel_rfl)) ?init26 ?fin26
  case init26 => refine ⟨_, _, _, _, _, _, _, _, rfl, Below.refl _ _, ?_, ?_, ?_, ?_, ?_, ?_, ?_, ?_⟩ <;> (intro h; exact absurd h (by decide))
  case step26 =>
    intro i hi d a v26 hI hdi hdeps
    obtain ⟨x20, x24, x25, x26, x27, x28, x30, x31, rfl, BW, h3, h7, h8, h9, h10, h11, h13, h14⟩ := hI
    have hsw := BW.out.size
    simp only [List.mem_cons, List.not_mem_nil, or_false] at hi
    rcases hi with rfl | rfl | rfl | rfl | rfl | rfl | rfl | rfl
    · have c0 : v26.cell? ⟨g, 0, none⟩ = some (.pointer (some ⟨k, 0, none⟩)) := (BG.out.below BW.out BG.out.lt).cell 0
      refine wpOp_step (o := ?os27) ?hos27 (fun K hK => ?_)
      case hos27 => simp only [List.getElem?_toArray, List.getElem?_cons_succ, List.getElem?_cons_zero]; rfl
      go_simp
      refine hK _ _ ?_
      clear hK K
      try simp only [Act.put, List.setIfInBounds_toArray, List.set_cons_zero, List.set_cons_succ]
      exact ⟨_, _, _, _, _, _, _, _, rfl, BW, fun _ => rfl, fun a => by first | exact h7 (by simpa using a) | rfl, fun a => by first | exact h8 (by simpa using a) | rfl, fun a => by first | exact h9 (by simpa using a) | rfl, fun a => by first | exact h10 (by simpa using a) | rfl, fun a => by first | exact h11 (by simpa using a) | rfl, fun a => by first | exact h13 (by simpa using a) | rfl, fun a => by first | exact h14 (by simpa using a) | rfl⟩
    · have c0 : v26.cell? ⟨g, 0, none⟩ = some (.pointer (some ⟨k, 0, none⟩)) := (BG.out.below BW.out BG.out.lt).cell 0
      refine wpOp_step (o := ?os28) ?hos28 (fun K hK => ?_)
      case hos28 => simp only [List.getElem?_toArray, List.getElem?_cons_succ, List.getElem?_cons_zero]; rfl
      go_simp
      refine hK _ _ ?_
      clear hK K
      try simp only [Act.put, List.setIfInBounds_toArray, List.set_cons_zero, List.set_cons_succ]
      exact ⟨_, _, _, _, _, _, _, _, rfl, BW, fun a => by first | exact h3 (by simpa using a) | rfl, fun _ => rfl, fun a => by first | exact h8 (by simpa using a) | rfl, fun a => by first | exact h9 (by simpa using a) | rfl, fun a => by first | exact h10 (by simpa using a) | rfl, fun a => by first | exact h11 (by simpa using a) | rfl, fun a => by first | exact h13 (by simpa using a) | rfl, fun a => by first | exact h14 (by simpa using a) | rfl⟩
    · obtain rfl := h7 (hdeps 7 (by simp))
      refine wpOp_step (o := ?os29) ?hos29 (fun K hK => ?_)
      case hos29 => simp only [List.getElem?_toArray, List.getElem?_cons_succ, List.getElem?_cons_zero]; rfl
      go_simp
      refine hK _ _ ?_
      clear hK K
      try simp only [Act.put, List.setIfInBounds_toArray, List.set_cons_zero, List.set_cons_succ]
      exact ⟨_, _, _, _, _, _, _, _, rfl, BW, fun a => by first | exact h3 (by simpa using a) | rfl, fun a => by first | exact h7 (by simpa using a) | rfl, fun _ => rfl, fun a => by first | exact h9 (by simpa using a) | rfl, fun a => by first | exact h10 (by simpa using a) | rfl, fun a => by first | exact h11 (by simpa using a) | rfl, fun a => by first | exact h13 (by simpa using a) | rfl, fun a => by first | exact h14 (by simpa using a) | rfl⟩
    · obtain rfl := h8 (hdeps 8 (by simp))
      refine wpOp_step (o := ?os30) ?hos30 (fun K hK => ?_)
      case hos30 => simp only [List.getElem?_toArray, List.getElem?_cons_succ, List.getElem?_cons_zero]; rfl
      go_simp
      refine hK _ _ ?_
      clear hK K
      try simp only [Act.put, List.setIfInBounds_toArray, List.set_cons_zero, List.set_cons_succ]
      exact ⟨_, _, _, _, _, _, _, _, rfl, BW, fun a => by first | exact h3 (by simpa using a) | rfl, fun a => by first | exact h7 (by simpa using a) | rfl, fun a => by first | exact h8 (by simpa using a) | rfl, fun _ => rfl, fun a => by first | exact h10 (by simpa using a) | rfl, fun a => by first | exact h11 (by simpa using a) | rfl, fun a => by first | exact h13 (by simpa using a) | rfl, fun a => by first | exact h14 (by simpa using a) | rfl⟩
    · obtain rfl := h9 (hdeps 9 (by simp))
      have c0 : v26.cell? ⟨k, 3, none⟩ = some (.map (some r3)) := (BK.out.below BW.out BK.out.lt).cell 3
      refine wpOp_step (o := ?os31) ?hos31 (fun K hK => ?_)
      case hos31 => simp only [List.getElem?_toArray, List.getElem?_cons_succ, List.getElem?_cons_zero]; rfl
      go_simp
      refine hK _ _ ?_
      clear hK K
      try simp only [Act.put, List.setIfInBounds_toArray, List.set_cons_zero, List.set_cons_succ]
      exact ⟨_, _, _, _, _, _, _, _, rfl, BW, fun a => by first | exact h3 (by simpa using a) | rfl, fun a => by first | exact h7 (by simpa using a) | rfl, fun a => by first | exact h8 (by simpa using a) | rfl, fun a => by first | exact h9 (by simpa using a) | rfl, fun _ => rfl, fun a => by first | exact h11 (by simpa using a) | rfl, fun a => by first | exact h13 (by simpa using a) | rfl, fun a => by first | exact h14 (by simpa using a) | rfl⟩
    · refine wpOp_step (o := ?os32) ?hos32 (fun K hK => ?_)
      case hos32 => simp only [List.getElem?_toArray, List.getElem?_cons_succ, List.getElem?_cons_zero]; rfl
      refine step_loadW rfl 34 (.tmp 4) rfl q 0 rfl kc _ Tryd.underlying34 rfl IK.out (B4.out.below BW.out B4.out.lt).cells (hK _ _ ?_)
      clear hK K
      try simp only [Act.put, List.setIfInBounds_toArray, List.set_cons_zero, List.set_cons_succ]
      exact ⟨_, _, _, _, _, _, _, _, rfl, BW, fun a => by first | exact h3 (by simpa using a) | rfl, fun a => by first | exact h7 (by simpa using a) | rfl, fun a => by first | exact h8 (by simpa using a) | rfl, fun a => by first | exact h9 (by simpa using a) | rfl, fun a => by first | exact h10 (by simpa using a) | rfl, fun _ => rfl, fun a => by first | exact h13 (by simpa using a) | rfl, fun a => by first | exact h14 (by simpa using a) | rfl⟩
    · refine wpOp_step (o := ?os33) ?hos33 (fun K hK => ?_)
      case hos33 => simp only [List.getElem?_toArray, List.getElem?_cons_succ, List.getElem?_cons_zero]; rfl
      go_simp
      refine (sclone_any b v26 (by omega)).mono ?_
      rintro e u26 ⟨rfl, hX⟩
      refine hK _ _ ?_
      clear hK K
      try simp only [Act.put, List.setIfInBounds_toArray, List.set_cons_zero, List.set_cons_succ]
      exact ⟨_, _, _, _, _, _, _, _, rfl, BW.out.trans (hX.mono hsw), fun a => by first | exact h3 (by simpa using a) | rfl, fun a => by first | exact h7 (by simpa using a) | rfl, fun a => by first | exact h8 (by simpa using a) | rfl, fun a => by first | exact h9 (by simpa using a) | rfl, fun a => by first | exact h10 (by simpa using a) | rfl, fun a => by first | exact h11 (by simpa using a) | rfl, fun _ => rfl, fun a => by first | exact h14 (by simpa using a) | rfl⟩
    · obtain rfl := h11 (hdeps 11 (by simp))
      obtain rfl := h13 (hdeps 13 (by simp))
      refine wpOp_step (o := ?os34) ?hos34 (fun K hK => ?_)
      case hos34 => simp only [List.getElem?_toArray, List.getElem?_cons_succ, List.getElem?_cons_zero]; rfl
      refine step_build rfl 67 #[(0, .tmp 28), (1, .tmp 30)] rfl cs (by simp only [List.map_toArray, List.map_cons, List.map_nil]; exact HBL.out) (hK _ _ ?_)
      clear hK K
      try simp only [Act.put, List.setIfInBounds_toArray, List.set_cons_zero, List.set_cons_succ]
      exact ⟨_, _, _, _, _, _, _, _, rfl, BW, fun a => by first | exact h3 (by simpa using a) | rfl, fun a => by first | exact h7 (by simpa using a) | rfl, fun a => by first | exact h8 (by simpa using a) | rfl, fun a => by first | exact h9 (by simpa using a) | rfl, fun a => by first | exact h10 (by simpa using a) | rfl, fun a => by first | exact h11 (by simpa using a) | rfl, fun a => by first | exact h13 (by simpa using a) | rfl, fun _ => rfl⟩
  case fin26 =>
    intro a v26 hI
    obtain ⟨x20, x24, x25, x26, x27, x28, x30, x31, rfl, BW, h3, h7, h8, h9, h10, h11, h13, h14⟩ := hI
    obtain rfl := h3 (by decide)
    obtain rfl := h7 (by decide)
    obtain rfl := h8 (by decide)
    obtain rfl := h9 (by decide)
    obtain rfl := h10 (by decide)
    obtain rfl := h11 (by decide)
    obtain rfl := h13 (by decide)
    obtain rfl := h14 (by decide)
    have W3 := Lib.hid (W0.out.trans (BW.out.mono W0.out.size))
    have C6 := Lib.hid (B6.out.below BW.out B6.out.lt)
    clear h3 h7 h8 h9 h10 h11 h13 h14 BW W0 BG BK B4 B6
    try dsimp only
    refine wpAny_ready (rs := [15]) (by kernel_rfl) (by simp) ?_
    refine AllReady.cons (o := ?p35) ?q35 (fun K hK => ?_) AllReady.nil
    case q35 => simp only [List.getElem?_toArray, List.getElem?_cons_succ, List.getElem?_cons_zero]; rfl
    go_simp
    refine (CN.out _ W3.out).mono ?_
    rintro e w5 ⟨rfl, hP, hF⟩
    refine hK _ _ ?_
    clear hK K
    try simp only [Act.put, List.setIfInBounds_toArray, List.set_cons_zero, List.set_cons_succ]
    have P5 := Lib.hid hP
    have F5 : Hid (Fr M w w5) := (Fr.of_below W3.out).trans hF
    have C7 : Hid (Blk w5 q1 34 (List.replicate 32 (Value.int .u8 0))) := hF.blk C6.out (fun h => by have := MLT.out _ h; omega)
    clear hP hF C6
    refine wpAny_ready (rs := [16]) (by kernel_rfl) (by simp) ?_
    refine AllReady.cons (o := ?p36) ?q36 (fun K hK => ?_) AllReady.nil
    case q36 => simp only [List.getElem?_toArray, List.getElem?_cons_succ, List.getElem?_cons_zero]; rfl
    refine step_storeAll rfl 34 (.tmp 6) (.tmp 32) rfl q1 rfl D rfl 34 (List.replicate 32 (Value.int .u8 0)) C7.out ID.out LD.out OD.out (hK _ _ ?_)
    clear hK K
    try simp only [Act.put, List.setIfInBounds_toArray, List.set_cons_zero, List.set_cons_succ]
    have F6 : Hid (Fr M w (w5.setRow q1 D.toArray)) := F5.out.cut (below_setRow (Below.refl w.heap.size w5) hqb _) (Nat.le_refl _)
    have P6 : Hid (BxAt (w5.setRow q1 D.toArray) g (.ideal s (Bx.bookAt a key b L) S B (Bx.bookNext s a key b L)) M) := bxAt_keep P5.out (by simp) (fun b hb => setRow_other _ _ _ _ (by have := MLT.out b hb; omega))
    have C8 : Hid (Blk (w5.setRow q1 D.toArray) q1 34 D) := C7.out.row
    generalize w5.setRow q1 D.toArray = w6 at *
    refine wpAny_done (by kernel_rfl) ?_ _
    go_wp2_with fail
    exact bodyPost_ret (results_cell_row rfl _ _ q1 34 D.toArray (0, 0) _ rfl C8.out Tryd.underlying34 rfl (by rw [ID.out]; simp)) rfl ⟨M, rfl, P6.out, F6.out, fun b hb => .inl hb⟩
end Go.Proofs.YtpbfeobifpmjbaaDoor
