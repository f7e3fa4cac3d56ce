/- The contract of finish. -/
import Derived.Test.YtbepofmkfloajaaDoorFinish
import Derived.Deep.Cut
namespace Go.Proofs.YtbepofmkfloajaaDoor
set_option linter.unusedVariables false
set_option linter.unusedSimpArgs false
open Go.RowKit

/-- A literal of an array. -/
theorem build_law {P : Program} {ops : Array Oper} {rest : List Oper} {o : Oper} {a : Act} {w : World} {Q : Exit → Act → World → Prop} (hgd : o.guard = none) (t : TypeId) (parts : Array (Nat × Operand)) (ho : o.op = .build t parts) (vs : List Value)
    (hb : P.built t (parts.map fun (i, x) => (i, a.eval x)).toList = some vs.toArray) (h : wpList P ops Q rest (a.put o.dst (.agg vs.toArray)) w) : wpList P ops Q (o :: rest) a w :=
  wpList_build hgd t parts ho (by rw [hb]; rfl) (by rw [hb]; exact h)

/-- The whole of a block is stored, the world behind it a letter. -/
theorem storeGen_law {P : Program} {ops : Array Oper} {rest : List Oper} {o : Oper} {a : Act} {w : World} {Q : Exit → Act → World → Prop} (hgd : o.guard = none) (ty : TypeId) (x y : Operand) (ho : o.op = .store ty x y)
    (g : Nat) (hx : a.eval x = .pointer (some ⟨g, 0, none⟩)) (vs : List Value) (hy : a.eval y = .agg vs.toArray) (t : TypeId) (cs : List Value) (hi : (P.info? ty).map (·.size) = some vs.length)
    (hfit : cs.length = vs.length) (h1 : ∀ v ∈ vs, v.oneCell' = true) (B : Nat) (w0 : World) (hb : Blk w g t cs) (hbel : Below B w0 w) (hBg : B ≤ g)
    (hk : ∀ w', Hid (Blk w' g t vs) → Hid (Below B w0 w') → wpList P ops Q rest (a.put o.dst undef) w') : wpList P ops Q (o :: rest) a w :=
  storeAll_law hgd ty x y ho g hx vs hy t cs hb hi hfit h1 (hk _ hb.row (below_setRow hbel hBg _))

def markB : List UInt8 := 128 :: List.replicate 63 0

theorem size_at (T k : Nat) (h : k < 8) : cellOf ((Sha.size8 T).getD k 0) = .int .u8 ((T : Int) / 2 ^ (8 * (7 - k)) % 256) := by
  unfold cellOf Sha.size8
  rw [List.getD_eq_getElem?_getD, List.getElem?_map, List.getElem?_range h]
  simp
theorem size_set (T k : Nat) (h : k < 8) : (((Sha.size8 T).take k).map cellOf ++ List.replicate (8 - k) (Value.int .u8 0)).set k (cellOf ((Sha.size8 T).getD k 0)) = ((Sha.size8 T).take (k + 1)).map cellOf ++ List.replicate (8 - (k + 1)) (.int .u8 0) := by
  have hl := Sha.size8_length T
  rw [List.set_append_right _ _ (by simp [hl]; omega), show 8 - k = (8 - (k + 1)) + 1 by omega, List.replicate_succ]
  simp only [List.length_map, List.length_take, hl, Nat.min_eq_left (Nat.le_of_lt h), Nat.sub_self, List.set_cons_zero]
  rw [show (Sha.size8 T).take (k + 1) = (Sha.size8 T).take k ++ [(Sha.size8 T)[k]] from List.take_succ_eq_append_getElem (by omega), List.map_append, List.append_assoc]
  simp [List.getD_eq_getElem?_getD, hl, h]
  rfl
theorem mark_tail (n u : Nat) (hu : u = 64 - (n + 8) % 64) : markB.take u ++ Sha.size8 (n * 8) = Sha.tail n := by
  unfold markB Sha.tail
  obtain ⟨v, rfl⟩ : ∃ v, u = v + 1 := ⟨u - 1, by omega⟩
  rw [List.take_succ_cons, List.take_replicate, show min v 63 = 63 - (n + 8) % 64 by omega]

set_option maxRecDepth 100000 in
set_option maxHeartbeats 1000000 in
theorem finish_any {w : World} {g : Nat} {m : List UInt8} (hg : Gl w) (h2 : 2 ≤ g) (hH : Holds w g m) (hb : m.length ≤ 549755813888) :
    Calls Tryd.prog 32 #[.pointer (some ⟨g, 0, none⟩)] w fun e w' => e = .returned (.tuple #[]) ∧ Ready w' g (m ++ Sha.tail m.length) ∧ w.grownBy w' (some g) := by
  have HG := Lib.hid hg
  have HH := Lib.hid hH
  have hglt := hH.lt
  obtain ⟨N, hN⟩ : ∃ N, N = m.length := ⟨_, rfl⟩
  have cN : w.cell? ⟨g, 72, none⟩ = some (.int .u64 (N : Int)) := by
    obtain ⟨hs, bl, hB, h8, h64, _⟩ := hH
    rw [hB.cell, hN]
    exact stC_len hs bl _ h8 h64
  have hNb : N ≤ 549755813888 := by omega
  have HN := Lib.hid hN
  clear hN hg hH hb
  obtain ⟨MB, hMB⟩ : ∃ MB, MB = markB.map cellOf := ⟨_, rfl⟩
  have HBu : Hid (Tryd.prog.built 51 [(0, .int .u8 128)] = some MB.toArray) := by unfold Hid; rw [hMB]; kernel_rfl
  have HZ := Lib.hid (Blk.new w 51 (List.replicate 64 (.int .u8 0)))
  have HI : Hid ((Tryd.prog.info? 51).map (·.size) = some MB.length) := by unfold Hid; rw [hMB]; kernel_rfl
  have HL : Hid ((List.replicate 64 (Value.int .u8 0)).length = MB.length) := by unfold Hid; rw [hMB]; rfl
  have H1 : Hid (∀ v ∈ MB, v.oneCell' = true) := by unfold Hid; rw [hMB]; exact cells_u8 _
  have HMB := Lib.hid hMB
  clear hMB
  go_enter Tryd.func32, Tryd.ntmps32
  go_upto_region 2 with (fail)
  refine wp_region_lit ?_
  refine build_law rfl 51 #[(0, .const (.int .u8 128))] rfl MB (by simp only [List.map_toArray, List.map_cons, List.map_nil]; exact HBu.out) ?_
  simp only [Act.put, List.setIfInBounds_toArray, List.set_cons_zero, List.set_cons_succ]
  go_upto_region 3 with (first
    | ((with_reducible refine storeGen_law rfl 51 (.tmp 4) (.tmp 18) rfl w.heap.size rfl MB rfl 51 (List.replicate 64 (.int .u8 0)) HI.out HL.out H1.out w.heap.size w ?_ ?_ (Nat.le_refl _) ?_)
       · exact HZ.out
       · exact (Below.refl _ _).alloc (Nat.le_refl _) _
       intro w1 B1 W1))
  obtain ⟨u, hu⟩ : ∃ u, u = 64 - (N + 8) % 64 := ⟨_, rfl⟩
  have eu : 64 - ((N : Int) + 8) % 64 = (u : Int) := by omega
  have hu1 : u ≤ 64 := by omega
  have hu2 : 1 ≤ u := by omega
  have HU := Lib.hid hu
  clear hu
  have hsl := sliceAt_h 51 64 Tryd.underlying51 w.heap.size 0 u hu1 w1
  have HR1 : Hid (Rd w1 (some ⟨w.heap.size, 0, none⟩) u 64 (markB.take u)) :=
    Rd.of_block B1.out (by rw [List.length_take]; simp [markB]; omega) hu1 (by unfold maxLen; omega) (fun j hj => by
      rw [HMB.out, Nat.zero_add, List.getElem?_map]
      have hj' : j < markB.length := by simp [markB]; omega
      simp [List.getD_eq_getElem?_getD, List.getElem?_take, hj, List.getElem?_eq_getElem hj'])
  have HH1 : Hid (Holds w1 g m) := HH.out.keep (W1.out.block g hglt)
  have HG1 := Lib.hid (HG.out.below W1.out HG.out.size)
  clear HZ HI HL H1 HBu HMB cN HH
  go_wp2_with fail
  refine (write_any HG1.out h2 HH1.out HR1.out (fun _ ad had => by injection had with had; subst had; simp; omega) (by rw [← HN.out, List.length_take]; omega)).mono ?_
  rintro e w2 ⟨rfl, R2, O2⟩
  have HRY2 := Lib.hid R2
  have HO2 := Lib.hid O2
  have HS2 : Hid (w1.heap.size ≤ w2.heap.size) := O2.size
  clear R2 O2 hsl
  go_wp2_with fail
  obtain ⟨T, hT⟩ : ∃ T : Nat, (T : Int) = (N : Int) * 8 := ⟨N * 8, by simp⟩
  rw [← hT]
  have hTb : T < 18446744073709551616 := by omega
  have HT : Hid (T = m.length * 8) := by unfold Hid; rw [← HN.out]; omega
  clear hT
  go_loopw [26] (fun i wr => ∃ k : Nat, k ≤ 8 ∧ i = .int .i64 k ∧ Hid (Blk wr w2.heap.size 64 (((Sha.size8 T).take k).map cellOf ++ List.replicate (8 - k) (.int .u8 0))) ∧ Hid (Below w2.heap.size w2 wr)) (fun i _ => 8 - (intOf i).toNat)
  case atStart => exact ⟨0, by omega, rfl, Blk.at_new _ _ 64 _ _ (by rfl) rfl, (Below.refl _ _).alloc (Nat.le_refl _) _⟩
  case round =>
    obtain ⟨k, hk, rfl, BK, BW⟩ := hrel
    by_cases hlt : k < 8
    · have c0 : wr.cell? ⟨w2.heap.size, k, none⟩ = some (.int .u8 0) := by
        rw [BK.out.cell, List.getElem?_append_right (by simp [Sha.size8]; omega)]
        simp only [List.length_map, List.length_take, Sha.size8_length, Nat.min_eq_left hk, Nat.sub_self]
        exact List.getElem?_replicate_of_lt (by omega)
      have f0 : wr.frozen? ⟨w2.heap.size, k, none⟩ = false := BK.out.frozen k
      go_wp2_with fail
      go_roundw
      case rel => exact ⟨k + 1, by omega, by go_num, by
        have := BK.out.set_ k (cellOf ((Sha.size8 T).getD k 0))
        rw [size_set T k hlt, size_at T k hlt] at this
        exact this, BW.out.setCell (Nat.le_refl _) _⟩
      case measure => simp [intOf]; omega
    · obtain rfl : k = 8 := by omega
      have HR3 : Hid (Rd wr (some ⟨w2.heap.size, 0, none⟩) 8 8 (Sha.size8 T)) :=
        Rd.of_block BK.out (Sha.size8_length T) (Nat.le_refl _) (by unfold maxLen; omega) (fun j hj => by
          have hj' : j < (Sha.size8 T).length := by rw [Sha.size8_length]; exact hj
          rw [Nat.zero_add, List.take_of_length_le (by rw [Sha.size8_length]; omega), List.getElem?_append_left (by simpa using hj'), List.getElem?_map, List.getElem?_eq_getElem hj']
          simp [List.getD_eq_getElem?_getD, List.getElem?_eq_getElem hj'])
      have hg2 : g < w2.heap.size := by have h1 := HS2.out; have h3 := W1.out.size; omega
      have HH3 : Hid (Holds wr g (m ++ markB.take u)) := HRY2.out.holds.keep (BW.out.block g hg2)
      have HG3 : Hid (Gl wr) := ((HG1.out.only HO2.out h2).below BW.out (HG1.out.only HO2.out h2).size)
      have hlen : (markB.take u).length = u := by rw [List.length_take]; simp [markB]; omega
      have HLN := Lib.hid hlen
      clear hlen BK HRY2
      go_wp2_with fail
      refine (write_any HG3.out h2 HH3.out HR3.out (fun _ ad had => by injection had with had; subst had; simp; omega) (by rw [List.length_append, HLN.out, Sha.size8_length, ← HN.out]; omega)).mono ?_
      rintro e w3 ⟨rfl, R3, O3⟩
      have HRY3 := Lib.hid R3
      have HO3 := Lib.hid O3
      clear R3 O3
      go_wp2_with fail
      go_end0
      refine ⟨rfl, ?_, only_trans (only_trans (only_of_below W1.out _) HO2.out) (only_trans (only_of_below BW.out _) HO3.out)⟩
      rw [← mark_tail m.length u (by rw [← HN.out]; exact HU.out), ← HT.out, ← List.append_assoc]
      exact HRY3.out
end Go.Proofs.YtbepofmkfloajaaDoor
