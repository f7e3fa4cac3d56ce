/- The landed box: texts are cloned; keys are built. -/
import Derived.Test.YtpbfeobifpmjbaaDoorBoxPb
import Derived.Test.YtpbfeobifpmjbaaDoorPhl
namespace Go.Proofs.YtpbfeobifpmjbaaDoor
set_option linter.unusedVariables false
set_option linter.unusedSimpArgs false
set_option maxRecDepth 100000
open Go.RowKit

/-- A literal, as one step of a region that draws. -/
theorem step_build {P : Program} {ops : Array Oper} {op : Oper} {a : Act} {w : World} {K : Act → World → Prop} {Q : Exit → Act → World → Prop} {E : Prop} (hgd : Region.wanted op (yielded ops a.tmps) = true) (t : TypeId) (parts : Array (Nat × Operand)) (ho : op.op = .build t parts) (vs : List Value)
    (hb : P.built t (parts.map fun (i, x) => (i, a.eval x)).toList = some vs.toArray) (hk : K (a.put op.dst (.agg vs.toArray)) w) : if Region.wanted op (yielded ops a.tmps) = true then op.wp P a w K Q else E := by
  rw [if_pos hgd]
  have hr := run_build (P := P) w t (parts.map fun (i, x) => (i, a.eval x)) vs.toArray hb
  unfold Oper.wp execOp
  simp only [ho, hr, Sem.run_bind, Sem.run_pure, Result.andThen_ok]
  exact hk
theorem list32 {l : List Value} (h : l.length = 32) : ∃ a0 a1 a2 a3 a4 a5 a6 a7 a8 a9 a10 a11 a12 a13 a14 a15 a16 a17 a18 a19 a20 a21 a22 a23 a24 a25 a26 a27 a28 a29 a30 a31, l = [a0, a1, a2, a3, a4, a5, a6, a7, a8, a9, a10, a11, a12, a13, a14, a15, a16, a17, a18, a19, a20, a21, a22, a23, a24, a25, a26, a27, a28, a29, a30, a31] := by
  have cut : ∀ {n : Nat} {l : List Value}, l.length = n + 1 → ∃ a r, l = a :: r ∧ r.length = n := fun {n l} h => by
    cases l with
    | nil => simp at h
    | cons a r => exact ⟨a, r, rfl, by simpa using h⟩
  obtain ⟨a0, r1, rfl, h1⟩ := cut h
  obtain ⟨a1, r2, rfl, h2⟩ := cut h1
  obtain ⟨a2, r3, rfl, h3⟩ := cut h2
  obtain ⟨a3, r4, rfl, h4⟩ := cut h3
  obtain ⟨a4, r5, rfl, h5⟩ := cut h4
  obtain ⟨a5, r6, rfl, h6⟩ := cut h5
  obtain ⟨a6, r7, rfl, h7⟩ := cut h6
  obtain ⟨a7, r8, rfl, h8⟩ := cut h7
  obtain ⟨a8, r9, rfl, h9⟩ := cut h8
  obtain ⟨a9, r10, rfl, h10⟩ := cut h9
  obtain ⟨a10, r11, rfl, h11⟩ := cut h10
  obtain ⟨a11, r12, rfl, h12⟩ := cut h11
  obtain ⟨a12, r13, rfl, h13⟩ := cut h12
  obtain ⟨a13, r14, rfl, h14⟩ := cut h13
  obtain ⟨a14, r15, rfl, h15⟩ := cut h14
  obtain ⟨a15, r16, rfl, h16⟩ := cut h15
  obtain ⟨a16, r17, rfl, h17⟩ := cut h16
  obtain ⟨a17, r18, rfl, h18⟩ := cut h17
  obtain ⟨a18, r19, rfl, h19⟩ := cut h18
  obtain ⟨a19, r20, rfl, h20⟩ := cut h19
  obtain ⟨a20, r21, rfl, h21⟩ := cut h20
  obtain ⟨a21, r22, rfl, h22⟩ := cut h21
  obtain ⟨a22, r23, rfl, h23⟩ := cut h22
  obtain ⟨a23, r24, rfl, h24⟩ := cut h23
  obtain ⟨a24, r25, rfl, h25⟩ := cut h24
  obtain ⟨a25, r26, rfl, h26⟩ := cut h25
  obtain ⟨a26, r27, rfl, h27⟩ := cut h26
  obtain ⟨a27, r28, rfl, h28⟩ := cut h27
  obtain ⟨a28, r29, rfl, h29⟩ := cut h28
  obtain ⟨a29, r30, rfl, h30⟩ := cut h29
  obtain ⟨a30, r31, rfl, h31⟩ := cut h30
  obtain ⟨a31, r32, rfl, h32⟩ := cut h31
  obtain rfl : r32 = [] := List.eq_nil_of_length_eq_zero h32
  exact ⟨_, _, _, _, _, _, _, _, _, _, _, _, _, _, _, _, _, _, _, _, _, _, _, _, _, _, _, _, _, _, _, _, rfl⟩
theorem builtM {kc : List Value} (h : kc.length = 32) (s : ByteArray) : Tryd.prog.built 67 [(0, .agg kc.toArray), (1, .string s)] = some (kc ++ [Value.string s]).toArray := by
  obtain ⟨a0, a1, a2, a3, a4, a5, a6, a7, a8, a9, a10, a11, a12, a13, a14, a15, a16, a17, a18, a19, a20, a21, a22, a23, a24, a25, a26, a27, a28, a29, a30, a31, rfl⟩ := list32 h
  kernel_rfl
theorem builtL {kc : List Value} (h : kc.length = 32) (n : Int) (s u : ByteArray) : Tryd.prog.built 79 [(0, .agg kc.toArray), (1, .int .i64 n), (2, .string s), (3, .string u)] = some (kc ++ [Value.int .i64 n, .string s, .string u]).toArray := by
  obtain ⟨a0, a1, a2, a3, a4, a5, a6, a7, a8, a9, a10, a11, a12, a13, a14, a15, a16, a17, a18, a19, a20, a21, a22, a23, a24, a25, a26, a27, a28, a29, a30, a31, rfl⟩ := list32 h
  kernel_rfl
theorem cellsByte (l : List UInt8) : Lib.byteCells l = l.map cellOf := rfl
set_option maxRecDepth 100000 in
set_option maxHeartbeats 1000000 in
theorem liteclone_any (l : List UInt8) (w : World) (hl : l.length ≤ 1000000) : Calls Tryd.prog 44 #[.string ⟨l.toArray⟩] w fun e w' => e = .returned (.string ⟨l.toArray⟩) ∧ Below w.heap.size w w' := by
  have hsz : (⟨l.toArray⟩ : ByteArray).size = l.length := by show l.toArray.size = _; simp
  by_cases h0 : l = []
  · subst h0
    go_enter Tryd.func44, Tryd.ntmps44
    go_wp2_with fail
    go_ret
    exact ⟨rfl, Below.refl _ _⟩
  · have hpos : 0 < l.length := List.length_pos_iff.2 h0
    have hmk := make_bytes l.length (by omega)
    obtain ⟨n, hn⟩ : ∃ n, n = l.length := ⟨_, rfl⟩
    have hco : Tryd.prog.cellsOf 5 = 1 := c5
    have hcp := Lib.run_copy_row_string (P := Tryd.prog) (w.alloc (.cells (outC [] n).toArray 5)) 28 9 3 5 w.heap.size 0 n n ⟨l.toArray⟩ (outC [] n).toArray 5 Tryd.underlying28 size5 (heap_alloc_new w _) (by rw [hsz, hn]; exact Nat.le_refl _) (by rw [hsz, hn]; simp [outC_length])
    obtain ⟨Y, hY⟩ : ∃ Y : Array Value, Y = ((outC [] n).toArray.toList.take 0 ++ Lib.byteCells (⟨l.toArray⟩ : ByteArray).data.toList ++ (outC [] n).toArray.toList.drop (0 + (⟨l.toArray⟩ : ByteArray).size)).toArray := ⟨_, rfl⟩
    rw [← hY] at hcp
    have hYl : Y.toList = l.map cellOf := by
      rw [hY, hsz, cellsByte]
      simp [outC_length, hn]
    have hgY : ((w.alloc (.cells (outC [] n).toArray 5)).setRow w.heap.size Y).heap[w.heap.size]? = some (.cells Y 5 (0, 0)) := setRow_heap _ _ _ _ 5 (0, 0) (heap_alloc_new w _)
    have hYs : Y.size = l.length := by rw [← Array.length_toList, hYl, List.length_map]
    have hUS := Lib.run_unsafeString_row (P := Tryd.prog) ((w.alloc (.cells (outC [] n).toArray 5)).setRow w.heap.size Y) 108 3 9 5 Tryd.underlying108 hco w.heap.size Y.size (by unfold World.shape?; rw [hgY]) l h0 (by omega) (by omega)
      (fun j x hx => by
        rw [add_plain, Nat.zero_add, cell_of_row _ _ j _ 5 _ hgY, ← Array.getElem?_toList, hYl, List.getElem?_map, hx]
        rfl)
    have hb1 : Below w.heap.size w (w.alloc (.cells (outC [] n).toArray 5)) := alloc_below w _
    have hb2 : Below w.heap.size (w.alloc (.cells (outC [] n).toArray 5)) ((w.alloc (.cells (outC [] n).toArray 5)).setRow w.heap.size Y) := ⟨rfl, rfl, rfl, by simp, fun k hk => setRow_other _ _ _ _ (by omega)⟩
    have HB : Hid (Below w.heap.size w (((w.alloc (.cells (outC [] n).toArray 5)).setRow w.heap.size Y).freeze ⟨w.heap.size, 0, none⟩ n)) := Lib.below_freeze (hb1.trans hb2) (p := ⟨w.heap.size, 0, none⟩) (Nat.le_refl _) _
    clear hb1 hb2 hY hYl hYs hgY hco
    rw [hsz] at hcp
    rw [← hn] at hcp hUS hmk hsz hpos
    have hln : l.length = n := hn.symm
    have hz : ((n : Int) == 0) = false := by simp; omega
    clear hn h0 hl
    go_enter Tryd.func44, Tryd.ntmps44
    go_wp2_with fail
    go_ret
    exact ⟨rfl, HB.out⟩
set_option maxRecDepth 100000 in
theorem sclone_any (l : List UInt8) (w : World) (hl : l.length ≤ 1000000) : Calls Tryd.prog 31 #[.string ⟨l.toArray⟩] w fun e w' => e = .returned (.string ⟨l.toArray⟩) ∧ Below w.heap.size w w' := by
  go_enter Tryd.func31, Tryd.ntmps31
  go_wp2_with fail
  refine (liteclone_any l w hl).mono ?_
  rintro e w1 ⟨rfl, hX⟩
  have X1 := Lib.hid hX
  clear hX
  go_wp2_with fail
  go_ret
  exact ⟨rfl, X1.out⟩
end Go.Proofs.YtpbfeobifpmjbaaDoor
