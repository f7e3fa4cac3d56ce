/- The document's own box, an ideal one: Mark and Label. -/
import Derived.Test.YtpbfeobifpmjbaaDoorRb2
import Derived.Test.YtpbfeobifpmjbaaDoorBoxPg
namespace Go.Proofs.YtpbfeobifpmjbaaDoor
set_option linter.unusedVariables false
set_option linter.unusedSimpArgs false
set_option maxRecDepth 100000
open Go.RowKit

/-- The document's notes are what the two books say. -/
def Alike (l : List RNote) (B L : List Bx.BNote) : Prop := ∀ key b, lookR 1 key b l = Bx.lookB key b B ∧ lookR 2 key b l = Bx.lookB key b L
theorem Alike.nil : Alike [] [] [] := fun _ _ => ⟨rfl, rfl⟩
theorem Alike.mark {l : List RNote} {B L : List Bx.BNote} (h : Alike l B L) (key b out : List UInt8) : Alike (l ++ [⟨1, key, b, out⟩]) (B ++ [⟨key, b, out⟩]) L := fun k x => by
  obtain ⟨h1, h2⟩ := h k x
  refine ⟨by rw [lookR_app, lookB_app, h1]; simp, ?_⟩
  rw [lookR_app, h2]
  simp
theorem Alike.label {l : List RNote} {B L : List Bx.BNote} (h : Alike l B L) (key b out : List UInt8) : Alike (l ++ [⟨2, key, b, out⟩]) B (L ++ [⟨key, b, out⟩]) := fun k x => by
  obtain ⟨h1, h2⟩ := h k x
  refine ⟨?_, by rw [lookR_app, lookB_app, h2]; simp⟩
  rw [lookR_app, h1]
  simp
/-- What Mark and Label give: out, the tape at a', the notes alike B' and L'. -/
def RetY (w : World) (B0 g : Nat) (s : Int) (l : List RNote) (v : Value) (out : List UInt8) (a' : Nat) (B' L' : List Bx.BNote) (e : Ending) (w' : World) : Prop :=
  ∃ l' v', e = .returned (.agg (out.map cellOf).toArray) ∧ RefAt w' B0 g s a' l' v' ∧ l'.length ≤ l.length + 1 ∧ Alike l' B' L' ∧ (∀ q, v'.ownBlock = some q → v.ownBlock = some q ∨ w.heap.size ≤ q) ∧ Fr (fun x => x = g ∨ some x = v.ownBlock) w w'

set_option maxRecDepth 100000 in
set_option maxHeartbeats 1000000 in
theorem rmark_any {w : World} {B0 g : Nat} {s : Int} {ta : Nat} {l : List RNote} {v : Value} {B L : List Bx.BNote} {A : Option Addr} {n c : Nat} {b : List UInt8} (key : List UInt8) (hR : RefAt w B0 g s ta l v) (hA : Alike l B L) (hGd : Bx.Good B) (h32 : key.length = 32) (hr : Rd w A n c b) (hnb : n ≤ 100000) (hog : ∀ x : Addr, A = some x → 0 < n → x.block ≠ g) (ha : ta ≤ 900000) (hlen : l.length ≤ 1000) (hB : B0 ≤ w.heap.size) :
    Calls Tryd.prog 18 #[.pointer (some ⟨g, 0, none⟩), .agg (key.map cellOf).toArray, .slice A n c] w (RetY w B0 g s l v (Bx.bookOut s ta key b B) (Bx.bookAt ta key b B) (Bx.bookNext s ta key b B) L) := by
  obtain ⟨kc, hkc⟩ : ∃ kc, kc = key.map cellOf := ⟨_, rfl⟩
  obtain ⟨D, hD⟩ : ∃ D, D = (Bx.bookOut s ta key b B).map cellOf := ⟨_, rfl⟩
  have hDl : D.length = 32 := by rw [hD, List.length_map, Bx.bookOut_length _ _ _ _ _ hGd]
  have IK : Hid ((Tryd.prog.info? 34).map (·.size) = some kc.length) := by unfold Hid; rw [hkc, List.length_map, h32]; kernel_rfl
  have ID : Hid ((Tryd.prog.info? 34).map (·.size) = some D.length) := by unfold Hid; rw [hDl]; kernel_rfl
  have LD : Hid ((List.replicate 32 (Value.int .u8 0)).length = D.length) := by unfold Hid; rw [hDl]; rfl
  have OD : Hid (∀ u ∈ D, u.oneCell' = true) := by unfold Hid; rw [hD]; exact cells_u8 _
  have CB : Hid (∀ (W : World) (A : Option Addr) (n c : Nat), Below w.heap.size w W → Rd W A n c b → n ≤ 100000 → (∀ x : Addr, A = some x → 0 < n → x.block ≠ g) → Calls Tryd.prog 35 #[.pointer (some ⟨g, 0, none⟩), .int .i64 1, .agg kc.toArray, .slice A n c] W fun e w' => ∃ l' v', e = .returned (.agg D.toArray) ∧ RefAt w' B0 g s (Bx.bookAt ta key b B) l' v' ∧ l'.length ≤ l.length + 1 ∧ Alike l' (Bx.bookNext s ta key b B) L ∧ (∀ q, v'.ownBlock = some q → v.ownBlock = some q ∨ w.heap.size ≤ q) ∧ Fr (fun x => x = g ∨ some x = v.ownBlock) W w') := fun W A n c hW hrd hn hog' => by
    rw [hkc, hD]
    refine (rbook_any 1 key (hR.below hW) h32 hrd hn ha hlen (Nat.le_trans hB hW.size) hog').mono ?_
    rintro e w' ⟨h1, h2⟩
    have hlk := (hA key b).1
    cases hl : Bx.lookB key b B with
    | some o =>
      rw [hl] at hlk
      obtain ⟨rfl, hX⟩ := h1 o hlk
      refine ⟨l, v, by simp [Bx.bookOut, hl], ?_, by omega, ?_, fun q hq => .inl hq, Fr.of_below hX⟩
      · rw [show Bx.bookAt ta key b B = ta by simp [Bx.bookAt, hl]]
        exact (hR.below hW).below hX
      · rw [show Bx.bookNext s ta key b B = B by simp [Bx.bookNext, hl]]
        exact hA
    | none =>
      rw [hl] at hlk
      obtain ⟨rfl, ⟨v', hR', hq'⟩, hF⟩ := h2 hlk
      refine ⟨l ++ [⟨1, key, b, Tap.tape s ta 32⟩], v', by simp [Bx.bookOut, hl], ?_, by simp, ?_, fun q hq => (hq' q hq).imp id (fun h => Nat.le_trans hW.size h), hF⟩
      · rw [show Bx.bookAt ta key b B = ta + 32 by simp [Bx.bookAt, hl]]
        exact hR'
      · rw [show Bx.bookNext s ta key b B = B ++ [⟨key, b, Tap.tape s ta 32⟩] by simp [Bx.bookNext, hl]]
        exact hA.mark key b _
  have HR := Lib.hid hR
  have hgl := hR.blk.lt
  have HLT : Hid (∀ q, v.ownBlock = some q → q < w.heap.size) := fun q hq => (World.ownsRow.lt hR.own q hq).2
  have HRB := Lib.hid hr
  have HOG := Lib.hid hog
  unfold RetY
  rw [← hkc, ← hD]
  clear hR hA hGd hr hog hkc hD hDl h32
  go_enter Tryd.func18, Tryd.ntmps18
  go_upto_region 1 with (fail)
  obtain ⟨w0, hw0⟩ : ∃ w0, w0 = (w.alloc (Obj.cells kc.toArray 34)).alloc (Obj.cells (List.replicate 32 (Value.int .u8 0)).toArray 34) := ⟨_, rfl⟩
  have B4 : Hid (Blk w0 w.heap.size 34 kc) := by unfold Hid; rw [hw0]; exact (Blk.new w _ _).alloc _
  have B6 : Hid (Blk w0 (w.heap.size + 1) 34 (List.replicate 32 (Value.int .u8 0))) := by unfold Hid; rw [hw0]; exact Blk.at_new _ _ _ _ _ rfl (by simp)
  have W0 : Hid (Below w.heap.size w w0) := by unfold Hid; rw [hw0]; exact ((Below.refl _ _).alloc (Nat.le_refl _) _).alloc (by simp) _
  have hs0 : w.heap.size + 2 ≤ w0.heap.size := by rw [hw0]; simp
  change Code.wp _ _ _ _ ((w.alloc (Obj.cells kc.toArray 34)).alloc (Obj.cells (List.replicate 32 (Value.int .u8 0)).toArray 34))
  rw [← hw0]
  clear hw0
  have c0 : w0.cell? ⟨g, 0, none⟩ = some (.int .i64 1) := (HR.out.blk.below W0.out hgl).cell 0
  go_wp2_with (first | (with_reducible refine load_law rfl 34 (.tmp 4) rfl w.heap.size 0 rfl kc _ Tryd.underlying34 rfl IK.out B4.out.cells ?_))
  clear c0
  refine (CB.out w0 _ _ _ W0.out (HRB.out.below W0.out) hnb HOG.out).mono ?_
  rintro e w3 ⟨l', v', rfl, h1, h2, h3, h4, h5⟩
  have C6 : Hid (Blk w3 (w.heap.size + 1) 34 (List.replicate 32 (Value.int .u8 0))) := h5.blk B6.out (fun h => by rcases h with h | h; omega; have := HLT.out _ h.symm; omega)
  have F3 : Hid (Fr (fun x => x = g ∨ some x = v.ownBlock) w w3) := (Fr.of_below W0.out).trans h5
  have R3 := Lib.hid h1
  have H2 := Lib.hid h2
  have H3 := Lib.hid h3
  have H4 := Lib.hid h4
  clear h1 h2 h3 h4 h5
  go_wp2_with (first
    | (with_reducible refine storeAll_law rfl 34 (.tmp 6) (.tmp 18) rfl (w.heap.size + 1) rfl D rfl 34 (List.replicate 32 (Value.int .u8 0)) C6.out ID.out LD.out OD.out ?_))
  have B10 : Hid (Blk (w3.setRow (w.heap.size + 1) D.toArray) (w.heap.size + 1) 34 D) := C6.out.row
  have hqn := blk_apart C6.out R3.out.own (by decide)
  exact bodyPost_ret (results_cell_row rfl _ _ (w.heap.size + 1) 34 D.toArray (0, 0) _ rfl B10.out Tryd.underlying34 rfl (by rw [ID.out]; simp)) rfl ⟨l', v', rfl, R3.out.keep (by simp) (setRow_other _ _ _ _ (by omega)) (fun q hq => setRow_other _ _ _ _ (fun e => hqn (by rw [hq, e]))), H2.out, H3.out, H4.out, F3.out.cut (below_setRow (Below.refl w.heap.size w3) (by omega) _) (Nat.le_refl _)⟩

set_option maxRecDepth 100000 in
set_option maxHeartbeats 1000000 in
theorem rlabel_any {w : World} {B0 g : Nat} {s : Int} {ta : Nat} {l : List RNote} {v : Value} {B L : List Bx.BNote} {b : List UInt8} (key : List UInt8) (hR : RefAt w B0 g s ta l v) (hA : Alike l B L) (hGd : Bx.Good L) (h32 : key.length = 32) (hnb : b.length ≤ 100000) (ha : ta ≤ 900000) (hlen : l.length ≤ 1000) (hB : B0 ≤ w.heap.size) :
    Calls Tryd.prog 19 #[.pointer (some ⟨g, 0, none⟩), .agg (key.map cellOf).toArray, .string ⟨b.toArray⟩] w (RetY w B0 g s l v (Bx.bookOut s ta key b L) (Bx.bookAt ta key b L) B (Bx.bookNext s ta key b L)) := by
  obtain ⟨kc, hkc⟩ : ∃ kc, kc = key.map cellOf := ⟨_, rfl⟩
  obtain ⟨D, hD⟩ : ∃ D, D = (Bx.bookOut s ta key b L).map cellOf := ⟨_, rfl⟩
  have hDl : D.length = 32 := by rw [hD, List.length_map, Bx.bookOut_length _ _ _ _ _ hGd]
  have IK : Hid ((Tryd.prog.info? 34).map (·.size) = some kc.length) := by unfold Hid; rw [hkc, List.length_map, h32]; kernel_rfl
  have ID : Hid ((Tryd.prog.info? 34).map (·.size) = some D.length) := by unfold Hid; rw [hDl]; kernel_rfl
  have LD : Hid ((List.replicate 32 (Value.int .u8 0)).length = D.length) := by unfold Hid; rw [hDl]; rfl
  have OD : Hid (∀ u ∈ D, u.oneCell' = true) := by unfold Hid; rw [hD]; exact cells_u8 _
  have CB : Hid (∀ (W : World) (A : Option Addr) (n c : Nat), Below w.heap.size w W → Rd W A n c b → n ≤ 100000 → (∀ x : Addr, A = some x → 0 < n → x.block ≠ g) → Calls Tryd.prog 35 #[.pointer (some ⟨g, 0, none⟩), .int .i64 2, .agg kc.toArray, .slice A n c] W fun e w' => ∃ l' v', e = .returned (.agg D.toArray) ∧ RefAt w' B0 g s (Bx.bookAt ta key b L) l' v' ∧ l'.length ≤ l.length + 1 ∧ Alike l' B (Bx.bookNext s ta key b L) ∧ (∀ q, v'.ownBlock = some q → v.ownBlock = some q ∨ w.heap.size ≤ q) ∧ Fr (fun x => x = g ∨ some x = v.ownBlock) W w') := fun W A n c hW hrd hn hog' => by
    rw [hkc, hD]
    refine (rbook_any 2 key (hR.below hW) h32 hrd hn ha hlen (Nat.le_trans hB hW.size) hog').mono ?_
    rintro e w' ⟨h1, h2⟩
    have hlk := (hA key b).2
    cases hl : Bx.lookB key b L with
    | some o =>
      rw [hl] at hlk
      obtain ⟨rfl, hX⟩ := h1 o hlk
      refine ⟨l, v, by simp [Bx.bookOut, hl], ?_, by omega, ?_, fun q hq => .inl hq, Fr.of_below hX⟩
      · rw [show Bx.bookAt ta key b L = ta by simp [Bx.bookAt, hl]]
        exact (hR.below hW).below hX
      · rw [show Bx.bookNext s ta key b L = L by simp [Bx.bookNext, hl]]
        exact hA
    | none =>
      rw [hl] at hlk
      obtain ⟨rfl, ⟨v', hR', hq'⟩, hF⟩ := h2 hlk
      refine ⟨l ++ [⟨2, key, b, Tap.tape s ta 32⟩], v', by simp [Bx.bookOut, hl], ?_, by simp, ?_, fun q hq => (hq' q hq).imp id (fun h => Nat.le_trans hW.size h), hF⟩
      · rw [show Bx.bookAt ta key b L = ta + 32 by simp [Bx.bookAt, hl]]
        exact hR'
      · rw [show Bx.bookNext s ta key b L = L ++ [⟨key, b, Tap.tape s ta 32⟩] by simp [Bx.bookNext, hl]]
        exact hA.label key b _
  have HR := Lib.hid hR
  have hgl := hR.blk.lt
  have HLT : Hid (∀ q, v.ownBlock = some q → q < w.heap.size) := fun q hq => (World.ownsRow.lt hR.own q hq).2


  unfold RetY
  rw [← hkc, ← hD]
  clear hR hA hGd hkc hD hDl h32
  go_enter Tryd.func19, Tryd.ntmps19
  go_upto_region 1 with (fail)
  obtain ⟨w0, hw0⟩ : ∃ w0, w0 = (w.alloc (Obj.cells kc.toArray 34)).alloc (Obj.cells (List.replicate 32 (Value.int .u8 0)).toArray 34) := ⟨_, rfl⟩
  have B4 : Hid (Blk w0 w.heap.size 34 kc) := by unfold Hid; rw [hw0]; exact (Blk.new w _ _).alloc _
  have B6 : Hid (Blk w0 (w.heap.size + 1) 34 (List.replicate 32 (Value.int .u8 0))) := by unfold Hid; rw [hw0]; exact Blk.at_new _ _ _ _ _ rfl (by simp)
  have W0 : Hid (Below w.heap.size w w0) := by unfold Hid; rw [hw0]; exact ((Below.refl _ _).alloc (Nat.le_refl _) _).alloc (by simp) _
  have hs0 : w.heap.size + 2 ≤ w0.heap.size := by rw [hw0]; simp
  change Code.wp _ _ _ _ ((w.alloc (Obj.cells kc.toArray 34)).alloc (Obj.cells (List.replicate 32 (Value.int .u8 0)).toArray 34))
  rw [← hw0]
  clear hw0
  have c0 : w0.cell? ⟨g, 0, none⟩ = some (.int .i64 1) := (HR.out.blk.below W0.out hgl).cell 0
  obtain ⟨cb, w1, hcv, hRb, hXb⟩ := conv_str b (by omega) w0
  have W1 := Lib.hid (W0.out.trans (hXb.mono W0.out.size))
  have B61 := Lib.hid (B6.out.below hXb B6.out.lt)
  have RBH := Lib.hid hRb
  clear hRb hXb
  go_wp2_with (first | (with_reducible refine load_law rfl 34 (.tmp 4) rfl w.heap.size 0 rfl kc _ Tryd.underlying34 rfl IK.out B4.out.cells ?_))
  clear c0 hcv
  refine (CB.out w1 _ _ _ W1.out RBH.out hnb (fun x hx _ => by injection hx with hx; rw [← hx]; show w0.heap.size ≠ g; omega)).mono ?_
  rintro e w3 ⟨l', v', rfl, h1, h2, h3, h4, h5⟩
  have C6 : Hid (Blk w3 (w.heap.size + 1) 34 (List.replicate 32 (Value.int .u8 0))) := h5.blk B61.out (fun h => by rcases h with h | h; omega; have := HLT.out _ h.symm; omega)
  have F3 : Hid (Fr (fun x => x = g ∨ some x = v.ownBlock) w w3) := (Fr.of_below W1.out).trans h5
  have R3 := Lib.hid h1
  have H2 := Lib.hid h2
  have H3 := Lib.hid h3
  have H4 := Lib.hid h4
  clear h1 h2 h3 h4 h5
  go_wp2_with (first
    | (with_reducible refine storeAll_law rfl 34 (.tmp 6) (.tmp 21) rfl (w.heap.size + 1) rfl D rfl 34 (List.replicate 32 (Value.int .u8 0)) C6.out ID.out LD.out OD.out ?_))
  have B10 : Hid (Blk (w3.setRow (w.heap.size + 1) D.toArray) (w.heap.size + 1) 34 D) := C6.out.row
  have hqn := blk_apart C6.out R3.out.own (by decide)
  exact bodyPost_ret (results_cell_row rfl _ _ (w.heap.size + 1) 34 D.toArray (0, 0) _ rfl B10.out Tryd.underlying34 rfl (by rw [ID.out]; simp)) rfl ⟨l', v', rfl, R3.out.keep (by simp) (setRow_other _ _ _ _ (by omega)) (fun q hq => setRow_other _ _ _ _ (fun e => hqn (by rw [hq, e]))), H2.out, H3.out, H4.out, F3.out.cut (below_setRow (Below.refl w.heap.size w3) (by omega) _) (Nat.le_refl _)⟩
end Go.Proofs.YtpbfeobifpmjbaaDoor
