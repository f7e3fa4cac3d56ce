/- The landed box: a book's note; texts are cloned. -/
import Derived.Test.YtpbfeobifpmjbaaDoorBoxPa
import Derived.Lib.BufferWrite
import Derived.Lib.UnsafeStr
namespace Go.Proofs.YtpbfeobifpmjbaaDoor
set_option linter.unusedVariables false
set_option linter.unusedSimpArgs false
set_option maxRecDepth 100000
open Go.RowKit

theorem Fr.of_below {M : Nat → Prop} {w w' : World} (h : Below w.heap.size w w') : Fr M w w' := ⟨h.os, h.tape, h.output, h.size, fun i hi _ => h.block i hi⟩
theorem Fr.of_only {M : Nat → Prop} {w w' : World} {t : Nat} (h : w.grownBy w' (some t)) (hM : M t) : Fr M w w' := ⟨h.os, h.tape, h.output, h.size, fun i hi hn => h.block i hi (fun e => hn (by injection e with e; rw [e]; exact hM))⟩
theorem Fr.trans {M : Nat → Prop} {w w' w'' : World} (h : Fr M w w') (k : Fr M w' w'') : Fr M w w'' := ⟨k.os.trans h.os, k.tape.trans h.tape, k.output.trans h.output, Nat.le_trans h.size k.size, fun i hi hn => (k.block i (Nat.lt_of_lt_of_le hi h.size) hn).trans (h.block i hi hn)⟩
theorem Fr.mono {M M' : Nat → Prop} {w w' : World} (h : Fr M w w') (hM : ∀ b, M b → M' b) : Fr M' w w' := ⟨h.os, h.tape, h.output, h.size, fun i hi hn => h.block i hi (fun hm => hn (hM i hm))⟩
/-- What was below B when w began stays but for M. -/
theorem Fr.cut {M : Nat → Prop} {B : Nat} {w w' w'' : World} (h : Fr M w w') (k : Below B w' w'') (hB : w.heap.size ≤ B) : Fr M w w'' := ⟨k.os.trans h.os, k.tape.trans h.tape, k.output.trans h.output, Nat.le_trans h.size k.size, fun i hi hn => (k.block i (by omega)).trans (h.block i hi hn)⟩
theorem Fr.gl {M : Nat → Prop} {w w' : World} (h : Fr M w w') (hg : Gl w) (hM : ∀ b, M b → 2 ≤ b) : Gl w' := hg.below (h.below (Below.refl 2 w) hM hg.size) (Nat.le_refl _)

/-- A map is asked. -/
theorem look_law {P : Program} {ops : Array Oper} {rest : List Oper} {o : Oper} {a : Act} {w : World} {Q : Exit → Act → World → Prop} (hgd : o.guard = none) (t : TypeId) (x y : Operand) (ho : o.op = .lookup t x y true)
    (m k : Value) (hx : a.eval x = m) (hy : a.eval y = k) (v : Value) (hrun : (Instr.lookup t m k true).run P w = .ok v w) (hk : wpList P ops Q rest (a.put o.dst v) w) : wpList P ops Q (o :: rest) a w := by
  refine wpList_plain hgd fun _ hK => ?_
  unfold Oper.wp execOp
  simp only [ho, hx, hy, hrun, Sem.run_bind, Sem.run_pure, Result.andThen_ok]
  exact hK _ _ hk
/-- A map is put into. -/
theorem update_law {P : Program} {ops : Array Oper} {rest : List Oper} {o : Oper} {a : Act} {w w' : World} {Q : Exit → Act → World → Prop} (hgd : o.guard = none) (t : TypeId) (x y z : Operand) (ho : o.op = .mapUpdate t x y z)
    (m k v : Value) (hx : a.eval x = m) (hy : a.eval y = k) (hz : a.eval z = v) (hrun : (Instr.mapUpdate t m k v).run P w = .ok () w') (hk : wpList P ops Q rest (a.put o.dst undef) w') : wpList P ops Q (o :: rest) a w := by
  refine wpList_plain hgd fun _ hK => ?_
  unfold Oper.wp
  simp [execOp, ho, hx, hy, hz, hrun, Result.andThen]
  exact hK _ _ hk
theorem zero34 (W : World) : (zeroValue 34).run Tryd.prog W = .ok (.agg (List.replicate 32 (Value.int .u8 0)).toArray) W := by kernel_rfl
theorem arrayAt32 (b off n c : Nat) (h : 32 ≤ n) (W : World) : (Instr.arrayAt 34 (.slice (some ⟨b, off, none⟩) n c)).run Tryd.prog W = .ok (.pointer (some ⟨b, off, none⟩)) W := by
  have h' : ¬ n < 32 := by omega
  simp [Instr.arrayAt, run_underlying Tryd.underlying34, h']
theorem mk_parts {key b : List UInt8} (hk : key.length = 32) : ∃ cs : List Value, mkKey key b = .agg cs.toArray ∧ cs.length = 33 ∧ ∀ v ∈ cs, v.oneCell' = true :=
  ⟨_, rfl, by simp [hk], fun v hv => by
    rcases List.mem_append.1 hv with hv | hv
    · exact cells_u8 key v hv
    · simp at hv; subst hv; rfl⟩

set_option maxRecDepth 100000 in
set_option maxHeartbeats 2000000 in
theorem note_old {w : World} {k r : Nat} {E : List (Value × Value)} {key b h : List UInt8} (hM : MapIs 67 w r E) (h32 : key.length = 32) (hb : b.length ≤ 100000) (hh : h.length = 32) (hin : ∀ v, (mkKey key b, v) ∈ E → v = .agg (h.map cellOf).toArray) (hex : ∃ v, (mkKey key b, v) ∈ E) :
    Calls Tryd.prog 28 #[.pointer (some ⟨k, 0, none⟩), .map (some r), mkKey key b] w fun e w' => e = .returned (.agg (h.map cellOf).toArray) ∧ Below w.heap.size w w' := by
  have HM := Lib.hid hM
  have HK : Hid (∃ l, keyOf Tryd.prog 67 (mkKey key b) = some l) := keyM h32 (by unfold maxLen; omega)
  have hrl := hM.lt
  obtain ⟨D, hD⟩ : ∃ D, D = h.map cellOf := ⟨_, rfl⟩
  rw [← hD] at hin
  rw [← hD]
  have LK : Hid (∀ W, W.heap[r]? = w.heap[r]? → (Instr.lookup 63 (.map (some r)) (mkKey key b) true).run Tryd.prog W = .ok (.tuple #[.agg D.toArray, .bool true]) W) := fun W hW => by
    rcases (HM.out.keep hW).look lawM Tryd.underlying63 (zero34 W) HK.out with ⟨_, hn⟩ | ⟨v, hv, hi⟩
    · obtain ⟨v, hv⟩ := hex
      exact absurd hv (hn v)
    · rw [hv, hin v hi]
  have hDl : D.length = 32 := by rw [hD, List.length_map, hh]
  have ID : Hid ((Tryd.prog.info? 34).map (·.size) = some D.length) := by unfold Hid; rw [hDl]; kernel_rfl
  have LD : Hid ((List.replicate 32 (Value.int .u8 0)).length = D.length) := by unfold Hid; rw [hDl]; rfl
  have OD : Hid (∀ v ∈ D, v.oneCell' = true) := by unfold Hid; rw [hD]; exact cells_u8 _
  obtain ⟨cs, hcs, hcl, hc1⟩ := mk_parts (b := b) h32
  rw [hcs] at LK
  rw [hcs]
  have IC : Hid ((Tryd.prog.info? 67).map (·.size) = some cs.length) := by unfold Hid; rw [hcl]; kernel_rfl
  clear hM HM HK hin hex hD hDl hcs hcl hc1 hb h32 hh
  go_enter Tryd.func28, Tryd.ntmps28
  go_upto_region 1 with (fail)
  obtain ⟨w0, hw0⟩ : ∃ w0, w0 = (w.alloc (Obj.cells cs.toArray 67)).alloc (Obj.cells (List.replicate 32 (Value.int .u8 0)).toArray 34) := ⟨_, rfl⟩
  have B5 : Hid (Blk w0 w.heap.size 67 cs) := by unfold Hid; rw [hw0]; exact (Blk.new w _ _).alloc _
  have B6 : Hid (Blk w0 (w.heap.size + 1) 34 (List.replicate 32 (Value.int .u8 0))) := by unfold Hid; rw [hw0]; exact Blk.at_new _ _ _ _ _ rfl (by simp)
  have W0 : Hid (Below w.heap.size w w0) := by unfold Hid; rw [hw0]; exact ((Below.refl _ _).alloc (Nat.le_refl _) _).alloc (by simp) _
  have hs0 : w.heap.size + 2 ≤ w0.heap.size := by rw [hw0]; simp
  change Code.wp _ _ _ _ ((w.alloc (Obj.cells cs.toArray 67)).alloc (Obj.cells (List.replicate 32 (Value.int .u8 0)).toArray 34))
  rw [← hw0]
  clear hw0
  have LK0 := LK.out w0 (W0.out.block r hrl)
  go_wp2_with (first
    | (with_reducible refine load_law rfl 67 (.tmp 5) rfl w.heap.size 0 rfl cs _ Tryd.underlying67 rfl IC.out B5.out.cells ?_)
    | ((with_reducible refine storeGen_law rfl 34 (.tmp 7) (.tmp 13) rfl w0.heap.size rfl D rfl 34 (List.replicate 32 (Value.int .u8 0)) ID.out LD.out OD.out w0.heap.size w0 ?_ ?_ (Nat.le_refl _) ?_)
       · exact Blk.at_new _ _ 34 _ _ (by rfl) rfl
       · exact (Below.refl _ _).alloc (Nat.le_refl _) _
       intro w1 B7 X1)
    | (with_reducible refine load_law rfl 34 (.tmp 7) rfl w0.heap.size 0 rfl D _ Tryd.underlying34 rfl ID.out B7.out.cells ?_)
    | ((with_reducible refine storeGen_law rfl 34 (.tmp 6) (.tmp 27) rfl (w.heap.size + 1) rfl D rfl 34 (List.replicate 32 (Value.int .u8 0)) ID.out LD.out OD.out w.heap.size w ?_ ?_ (Nat.le_succ _) ?_)
       · exact B6.out.below X1.out (by omega)
       · exact W0.out.trans (X1.out.mono (by omega))
       intro w2 B8 X2))
  exact bodyPost_ret (results_cell_row rfl _ _ (w.heap.size + 1) 34 D.toArray (0, 0) _ rfl B8.out Tryd.underlying34 rfl (by rw [ID.out]; simp)) rfl ⟨rfl, X2.out⟩

set_option maxRecDepth 100000 in
set_option maxHeartbeats 2000000 in
theorem note_new {w : World} {k t r : Nat} {s : Int} {a : Nat} {m1 m2 m3 : Value} {E : List (Value × Value)} {key b : List UInt8} (hG : Gl w) (h2t : 2 ≤ t) (hk : Blk w k 65 [.pointer (some ⟨t, 0, none⟩), m1, m2, m3]) (hT : TapeAt w t s a) (hM : MapIs 67 w r E) (h32 : key.length = 32) (hb : b.length ≤ 100000) (hno : ∀ v, (mkKey key b, v) ∉ E) (ha : a ≤ 1000000) (hkt : k ≠ t) (htr : t ≠ r) :
    Calls Tryd.prog 28 #[.pointer (some ⟨k, 0, none⟩), .map (some r), mkKey key b] w fun e w' => e = .returned (.agg ((Tap.tape s a 32).map cellOf).toArray) ∧ TapeAt w' t s (a + 32) ∧ (∃ E', MapIs 67 w' r E' ∧ ∀ p, p ∈ E' ↔ p = (mkKey key b, .agg ((Tap.tape s a 32).map cellOf).toArray) ∨ (p ∈ E ∧ p.1 ≠ mkKey key b)) ∧ Fr (fun b => b = t ∨ b = r) w w' := by
  have HG := Lib.hid hG
  have HKB := Lib.hid hk
  have HT := Lib.hid hT
  have HM := Lib.hid hM
  have hkl := hk.lt
  have htl := hT.blk.lt
  have HK : Hid (∃ l, keyOf Tryd.prog 67 (mkKey key b) = some l) := keyM h32 (by unfold maxLen; omega)
  have hrl := hM.lt
  obtain ⟨D, hD⟩ : ∃ D, D = (Tap.tape s a 32).map cellOf := ⟨_, rfl⟩
  rw [← hD]
  have LK : Hid (∀ W, W.heap[r]? = w.heap[r]? → (Instr.lookup 63 (.map (some r)) (mkKey key b) true).run Tryd.prog W = .ok (.tuple #[.agg (List.replicate 32 (Value.int .u8 0)).toArray, .bool false]) W) := fun W hW => by
    rcases (HM.out.keep hW).look lawM Tryd.underlying63 (zero34 W) HK.out with ⟨hv, _⟩ | ⟨v, hv, hi⟩
    · exact hv
    · exact absurd hi (hno v)
  have hDl : D.length = 32 := by rw [hD, List.length_map, Tap.tape_length]
  have ID : Hid ((Tryd.prog.info? 34).map (·.size) = some D.length) := by unfold Hid; rw [hDl]; kernel_rfl
  have LD : Hid ((List.replicate 32 (Value.int .u8 0)).length = D.length) := by unfold Hid; rw [hDl]; rfl
  have OD : Hid (∀ v ∈ D, v.oneCell' = true) := by unfold Hid; rw [hD]; exact cells_u8 _
  have IZ : Hid ((Tryd.prog.info? 34).map (·.size) = some (List.replicate 32 (Value.int .u8 0)).length) := by unfold Hid; rw [List.length_replicate]; kernel_rfl
  have OZ : Hid (∀ v ∈ (List.replicate 32 (Value.int .u8 0)), v.oneCell' = true) := fun v hv => by rw [List.eq_of_mem_replicate hv]; rfl
  have HD := Lib.hid hD
  obtain ⟨x, hx⟩ : ∃ x, x = mkKey key b := ⟨_, rfl⟩
  obtain ⟨cs, hcs, hcl, hc1⟩ := mk_parts (b := b) h32
  rw [← hx] at hcs
  rw [← hx] at LK HK hno
  rw [← hx]
  have HCS := Lib.hid hcs
  rw [hcs] at LK
  rw [hcs]
  have IC : Hid ((Tryd.prog.info? 67).map (·.size) = some cs.length) := by unfold Hid; rw [hcl]; kernel_rfl
  clear hG hk hT hM hD hDl hcs hcl hc1 hb h32 hx hno
  go_enter Tryd.func28, Tryd.ntmps28
  go_upto_region 1 with (fail)
  obtain ⟨w0, hw0⟩ : ∃ w0, w0 = (w.alloc (Obj.cells cs.toArray 67)).alloc (Obj.cells (List.replicate 32 (Value.int .u8 0)).toArray 34) := ⟨_, rfl⟩
  have B5 : Hid (Blk w0 w.heap.size 67 cs) := by unfold Hid; rw [hw0]; exact (Blk.new w _ _).alloc _
  have B6 : Hid (Blk w0 (w.heap.size + 1) 34 (List.replicate 32 (Value.int .u8 0))) := by unfold Hid; rw [hw0]; exact Blk.at_new _ _ _ _ _ rfl (by simp)
  have W0 : Hid (Below w.heap.size w w0) := by unfold Hid; rw [hw0]; exact ((Below.refl _ _).alloc (Nat.le_refl _) _).alloc (by simp) _
  have hs0 : w.heap.size + 2 ≤ w0.heap.size := by rw [hw0]; simp
  change Code.wp _ _ _ _ ((w.alloc (Obj.cells cs.toArray 67)).alloc (Obj.cells (List.replicate 32 (Value.int .u8 0)).toArray 34))
  rw [← hw0]
  clear hw0
  have LK0 := LK.out w0 (W0.out.block r hrl)
  go_upto_region 3 with (first
    | (with_reducible refine load_law rfl 67 (.tmp 5) rfl w.heap.size 0 rfl cs _ Tryd.underlying67 rfl IC.out B5.out.cells ?_)
    | ((with_reducible refine storeGen_law rfl 34 (.tmp 7) (.tmp 13) rfl w0.heap.size rfl (List.replicate 32 (Value.int .u8 0)) rfl 34 (List.replicate 32 (Value.int .u8 0)) IZ.out rfl OZ.out w0.heap.size w0 ?_ ?_ (Nat.le_refl _) ?_)
       · exact Blk.at_new _ _ 34 _ _ (by rfl) rfl
       · exact (Below.refl _ _).alloc (Nat.le_refl _) _
       intro w1 B7 X1))
  obtain ⟨q, hq⟩ : ∃ q, q = w0.heap.size := ⟨_, rfl⟩
  rw [← hq] at B7 X1
  rw [← hq]
  replace hs0 : w.heap.size + 2 ≤ q := by omega
  clear hq
  have W1 := Lib.hid (W0.out.trans (X1.out.mono (by omega)))
  have C5 := Lib.hid (B5.out.below X1.out (by omega))
  have C6 := Lib.hid (B6.out.below X1.out (by omega))
  have c0 : w1.cell? ⟨k, 0, none⟩ = some (.pointer (some ⟨t, 0, none⟩)) := (HKB.out.below W1.out hkl).cell 0
  have T1 : Hid (TapeAt w1 t s a) := ⟨HT.out.blk.below W1.out htl, HT.out.lo, HT.out.hi⟩
  have hq7 := B7.out.lt
  clear LK0 LK B5 B6 X1
  go_wp2_with fail
  refine (tnext_any 32 (HG.out.below W1.out HG.out.size) h2t T1.out (by omega) ha).mono ?_
  rintro e w2 ⟨A, c, rfl, hR, hT2, hO, hF⟩
  obtain ⟨gb, off, rfl, hgl, hgc⟩ := hR.at_ (by omega)
  have hF' : w1.heap.size ≤ gb := hF _ rfl
  have harr := arrayAt32 gb off 32 c (Nat.le_refl _)
  have RD : Hid (∀ j v, D[j]? = some v → w2.cell? ⟨gb, off + j, none⟩ = some v) := by unfold Hid; rw [HD.out]; exact hR.cells
  have D5 : Hid (Blk w2 w.heap.size 67 cs) := (hO.block _ C5.out.lt (fun e => by injection e with e; omega)).trans C5.out
  have D6 : Hid (Blk w2 (w.heap.size + 1) 34 (List.replicate 32 (Value.int .u8 0))) := (hO.block _ C6.out.lt (fun e => by injection e with e; omega)).trans C6.out
  have D7 : Hid (Blk w2 q 34 (List.replicate 32 (Value.int .u8 0))) := (hO.block _ B7.out.lt (fun e => by injection e with e; omega)).trans B7.out
  have T2 := Lib.hid hT2
  have M2 : Hid (MapIs 67 w2 r E) := HM.out.keep ((hO.block r (Nat.lt_of_lt_of_le hrl W1.out.size) (fun e => htr (by injection e with e; exact e.symm))).trans (W1.out.block r hrl))
  have F2 : Hid (Fr (fun b => b = t ∨ b = r) w w2) := (Fr.of_below W1.out).trans (Fr.of_only hO (.inl rfl))
  have hs2 := hO.size
  have hs1 := W1.out.size
  clear hR hT2 hO hF hgc T1 C5 C6 B7 W1 c0 HT
  go_upto_region 4 with (first
    | (with_reducible refine load_law rfl 34 (.tmp 22) rfl gb off rfl D _ Tryd.underlying34 rfl ID.out RD.out ?_)
    | (with_reducible refine storeGen_law rfl 34 (.tmp 7) (.tmp 23) rfl q rfl D rfl 34 (List.replicate 32 (Value.int .u8 0)) ID.out LD.out OD.out q w2 D7.out (Below.refl _ _) (Nat.le_refl _) ?_; intro w3 B7 X3))
  have E5 := Lib.hid (D5.out.below X3.out (by omega))
  have E6 := Lib.hid (D6.out.below X3.out (by omega))
  obtain ⟨w4, E', hup, hM4, hE4, o1, o2, o3, o4, o5⟩ := (M2.out.keep (X3.out.block r (by omega))).put lawM Tryd.underlying63 HK.out (.agg D.toArray)
  rw [HCS.out] at hup
  have F4 : Hid (Fr (fun b => b = t ∨ b = r) w w4) := (F2.out.cut X3.out (by omega)).trans ⟨o1, o2, o3, by omega, fun i hi hn => o5 i (fun e => hn (.inr e))⟩
  have G5 : Hid (Blk w4 w.heap.size 67 cs) := (o5 _ (by omega)).trans E5.out
  have G6 : Hid (Blk w4 (w.heap.size + 1) 34 (List.replicate 32 (Value.int .u8 0))) := (o5 _ (by omega)).trans E6.out
  have G7 : Hid (Blk w4 q 34 D) := (o5 _ (by omega)).trans B7.out
  have T4 : Hid (TapeAt w4 t s (a + 32)) := ⟨(o5 _ htr).trans (T2.out.blk.below X3.out (by omega)), T2.out.lo, T2.out.hi⟩
  have M4 := Lib.hid hM4
  have H4 := Lib.hid hE4
  clear hM4 hE4 harr D5 D6 D7 T2 M2 F2 RD
  go_wp2_with (first
    | (with_reducible refine load_law rfl 67 (.tmp 5) rfl w.heap.size 0 rfl cs _ Tryd.underlying67 rfl IC.out E5.out.cells ?_)
    | (with_reducible refine load_law rfl 34 (.tmp 7) rfl q 0 rfl D _ Tryd.underlying34 rfl ID.out B7.out.cells ?_)
    | (with_reducible refine load_law rfl 34 (.tmp 7) rfl q 0 rfl D _ Tryd.underlying34 rfl ID.out G7.out.cells ?_)
    | (with_reducible refine storeGen_law rfl 34 (.tmp 6) (.tmp 27) rfl (w.heap.size + 1) rfl D rfl 34 (List.replicate 32 (Value.int .u8 0)) ID.out LD.out OD.out (w.heap.size + 1) w4 G6.out (Below.refl _ _) (Nat.le_refl _) ?_; intro w5 B8 X5))
  exact bodyPost_ret (results_cell_row rfl _ _ (w.heap.size + 1) 34 D.toArray (0, 0) _ rfl B8.out Tryd.underlying34 rfl (by rw [ID.out]; simp)) rfl ⟨rfl, ⟨T4.out.blk.below X5.out (by omega), T4.out.lo, T4.out.hi⟩, ⟨E', M4.out.keep (X5.out.block r (by omega)), by rw [← HCS.out]; exact H4.out⟩, F4.out.cut X5.out (by omega)⟩
end Go.Proofs.YtpbfeobifpmjbaaDoor
