/- Contracts of what makes memory: withRoom, appendNumber, Put. -/
import Derived.Test.YtgjpppgcocmlhaaSmall
import Derived.Laws.CopyOwn
import Derived.Maps.AppendAt
import Derived.Deep.AppendLies
namespace Go.Proofs.Ytgjpppgcocmlhaa
open Go.RowKit

theorem info5 : (Try.prog.info? 5).map (fun i => (i.zero, i.size, i.bytes)) = some (some (.int .u8 0), 1, 1) := by kernel_rfl
theorem size5 : (Try.prog.info? 5).map (·.size) = some 1 := by kernel_rfl

/-- The value v owns the bytes l, in a row from block 'base' on. -/
def Ow (w : World) (base : Nat) (v : Value) (l : List UInt8) : Prop := w.ownsRow base 5 1 v l.length (l.map cellOf)

theorem cells_one (l : List UInt8) : ∀ u ∈ l.map cellOf, u.oneCell' = true := by
  intro u hu
  obtain ⟨b, _, rfl⟩ := List.mem_map.1 hu
  rfl

theorem Ow.form {w : World} {base : Nat} {v : Value} {l : List UInt8} (h : Ow w base v l) (hl : 0 < l.length) :
    ∃ g c, v = .slice (some ⟨g, 0, none⟩) l.length c ∧ base ≤ g ∧ g < w.heap.size := World.ownsRow.form h hl

/-- What is owned can be read. -/
theorem Ow.rd {w : World} {base g n c : Nat} {l : List UInt8} (h : Ow w base (.slice (some ⟨g, 0, none⟩) n c) l) (hn : n = l.length) : Rd w (some ⟨g, 0, none⟩) n c l := by
  subst hn
  have h0 := h
  rcases h.2 with ⟨h', _⟩ | ⟨g', cap', cur, h', _, hg, hnc, hcm, _, _⟩
  · simp at h'
  · simp only [Value.slice.injEq, Option.some.injEq, Addr.mk.injEq, and_true, true_and] at h'
    obtain ⟨rfl, rfl⟩ := h'
    refine ⟨rfl, hnc, hcm, fun _ => ⟨g, 0, rfl, ?_, fun j hj => ?_⟩⟩
    · rcases Nat.lt_or_ge g w.heap.size with hlt | hge
      · exact hlt
      · rw [Array.getElem?_eq_none hge] at hg; cases hg
    · have := World.ownsRow.cellAt h0 j (by omega)
      rw [Nat.zero_add, this]
      simp [List.getD_eq_getElem?_getD, List.getElem?_eq_getElem hj]

theorem Rd.below {w w' : World} {A : Option Addr} {n c : Nat} {l : List UInt8} (h : Rd w A n c l) (hb : Below w.heap.size w w') : Rd w' A n c l :=
  ⟨h.len, h.cap, h.max, fun h0 => by
    obtain ⟨b, off, rfl, hlt, hc⟩ := h.at_ h0
    exact ⟨b, off, rfl, Nat.lt_of_lt_of_le hlt hb.size, fun j hj => (hb.cell (p := ⟨b, off + j, none⟩) hlt).trans (hc j hj)⟩⟩

theorem Rd.nil (w : World) (A : Option Addr) (c : Nat) (hc : c ≤ maxLen) : Rd w A 0 c [] := ⟨rfl, Nat.zero_le _, hc, fun h => absurd h (by omega)⟩

theorem make_bytes (n r : Nat) (h : n + r ≤ 140737488355328) (W : World) :
    (Instr.makeSlice 22 (.int .i64 (n : Int)) (.int .i64 ((n : Int) + (r : Int)))).run Try.prog W = .ok (.slice (some ⟨W.heap.size, 0, none⟩) n (n + r)) (W.alloc (.cells (madeCells #[.int .u8 0] (n + r)) 5)) := by
  obtain ⟨i0, hi, hz0, hz1, hz2⟩ := info_parts info5
  have hr := run_make (P := Try.prog) W 22 5 i0 (.int .u8 0) Try.underlying22 hi hz0 .i64 .i64 (n : Int) ((n : Int) + (r : Int)) (by omega) (by omega) (by rw [hz2]; omega) (by omega)
  rw [hz1] at hr
  have e1 : ((n : Int) + (r : Int)).toNat = n + r := by omega
  rw [e1, Int.toNat_natCast, Nat.mul_one] at hr
  exact hr

theorem copy_bytes {A : Option Addr} {n c : Nat} {l : List UInt8} {w : World} (r : Nat) (cur : List Value) (hcur : cur.length = n + r) (hr : n + r ≤ 140737488355328) (h : Rd w A n c l) :
    ∃ W', (Builtin.copy_ #[22, 22] 3 #[.slice (some ⟨w.heap.size, 0, none⟩) n (n + r), .slice A n c]).run Try.prog (w.alloc (.cells cur.toArray 5)) = .ok (goInt n) W' ∧
      Ow W' w.heap.size (.slice (some ⟨w.heap.size, 0, none⟩) n (n + r)) l ∧ Below w.heap.size w W' := by
  have hb : Below w.heap.size w (w.alloc (.cells cur.toArray 5)) := (Below.refl _ _).alloc (Nat.le_refl _) _
  have hmax : n + r ≤ maxLen := by unfold maxLen; omega
  have hg : (w.alloc (.cells cur.toArray 5)).heap[w.heap.size]? = some (.cells cur.toArray 5 (0, 0)) := heap_alloc_new w _
  rcases Nat.eq_zero_or_pos n with h0 | h0
  · subst h0
    obtain rfl : l = [] := List.eq_nil_of_length_eq_zero h.len
    refine ⟨_, run_copy_none (P := Try.prog) _ 22 22 3 5 _ _ _ _ _ _ Try.underlying22 size5 (by simp), ?_, hb⟩
    exact ⟨by simp, .inr ⟨_, _, _, rfl, Nat.le_refl _, hg, by simp, hmax, by simpa using hcur, by simp⟩⟩
  · obtain ⟨b, off, rfl, hlt, hc⟩ := h.at_ h0
    have hl : (l.map cellOf).length = n := by simpa using h.len
    have hrun := run_copy_row (P := Try.prog) (w.alloc (.cells cur.toArray 5)) 22 22 3 5 w.heap.size 0 n (n + r) ⟨b, off, none⟩ n c cur.toArray 5 (l.map cellOf) Try.underlying22 size5 hg (by simp [h.len])
      (fun j v hj => by
        have hjl : j < n := by have := (List.getElem?_eq_some_iff.1 hj).1; omega
        have e : (⟨b, off, none⟩ : Addr).add j = ⟨b, off + j, none⟩ := by unfold Addr.add; split <;> simp_all
        rw [e, hb.cell (p := ⟨b, off + j, none⟩) hlt, hc j hjl, ← hj]
        have hj' : j < l.length := by rw [h.len]; exact hjl
        simp [List.getD_eq_getElem?_getD, List.getElem?_eq_getElem hj'])
      (by rw [hl]; simp; omega) (cells_one l)
    rw [hl] at hrun
    refine ⟨_, hrun, ?_, below_setRow hb (Nat.le_refl _) _⟩
    refine ⟨by simp, .inr ⟨_, _, _, by rw [h.len], Nat.le_refl _, setRow_heap _ _ _ _ 5 _ hg, by rw [h.len]; omega, hmax, ?_, ?_⟩⟩
    · simp [h.len]; omega
    · simp [h.len]

set_option maxRecDepth 100000 in
set_option maxHeartbeats 400000 in
theorem room_any {A : Option Addr} {n c : Nat} {l : List UInt8} {w : World} (r : Nat) (h : Rd w A n c l) (hr : n + r ≤ 140737488355328) :
    Calls Try.prog 22 #[.slice A n c, .int .i64 r] w fun e w' => e = .returned (.slice (some ⟨w.heap.size, 0, none⟩) n (n + r)) ∧ Ow w' w.heap.size (.slice (some ⟨w.heap.size, 0, none⟩) n (n + r)) l ∧ Below w.heap.size w w' := by
  have hmk := make_bytes n r hr
  obtain ⟨cur, hcur⟩ : ∃ cur : List Value, cur = (madeCells #[.int .u8 0] (n + r)).toList := ⟨_, rfl⟩
  have hlen : cur.length = n + r := by rw [hcur, Array.length_toList, size_madeCells]
  have harr : madeCells #[.int .u8 0] (n + r) = cur.toArray := by rw [hcur]
  rw [harr] at hmk
  obtain ⟨W', hcopy, hown, hbel⟩ := copy_bytes r cur hlen hr h
  have HO := Lib.hid hown
  have HB := Lib.hid hbel
  clear hcur harr hlen h hown hbel
  go_enter Try.func22, Try.ntmps22
  go_wp2
  go_ret
  exact ⟨rfl, HO.out, HB.out⟩

/-- 'append(s, x)' of one byte, s nil or the call's own. -/
theorem push_law {ops : Array Oper} {rest : List Oper} {o : Oper} {a : Act} {Q : Exit → Act → World → Prop} {wr w0 : World} {B : Nat} {v : Value} {l : List UInt8} {b : Int} (hgd : o.guard = none) (s x : Operand)
    (ho : o.op = .call { callee := .builtin .append, args := #[s, x], argTypes := #[22, 22] }) (hs : a.eval s = v) (hx : a.eval x = .slice (some ⟨wr.heap.size, 0, none⟩) 1 1) (y : UInt8) (hown : Ow wr B v l) (hb : b = (y.toNat : Int))
    (hlen : l.length + 1 ≤ 140737488355328) (hB : B ≤ wr.heap.size) (hbel : Below B w0 wr)
    (h : ∀ v' w', Hid (Ow w' B v' (l ++ [y])) → Hid (Below B w0 w') → wpList Try.prog ops Q rest (a.put o.dst v') w') : wpList Try.prog ops Q (o :: rest) a (wr.alloc (.cells #[.int .u8 b] 5)) := by
  obtain ⟨i0, hi, hz0, hz1, hz2⟩ := info_parts info5
  subst hb
  refine wpList_append_own _ hgd s x 22 ho B 5 i0 (.int .u8 0) 1 1 Try.underlying22 hi hz0 hz1 hz2 rfl (by decide) v l.length (l.map cellOf) hs (World.ownsRow.alloc hown _) ⟨wr.heap.size, 0, none⟩ 1 1 [cellOf y] hx rfl
    (cell_one_new _ _ _) (fun u hu => by simp at hu; subst hu; rfl) (by unfold maxLen; omega) (by omega) (by simp; omega) ?_
  intro v' w' h2 h3 _
  refine h v' w' (by unfold Hid Ow; simpa using h2) ?_
  refine (hbel.alloc hB _).grown h3 (by simp; omega) fun k hk => ?_
  exact (World.ownsRow.lt hown k hk).1

theorem byte_hi (q : Nat) : (q : Int) % 128 + 128 = ((UInt8.ofNat (q % 128 + 128)).toNat : Int) := by simp; omega
theorem byte_lo {q : Nat} (h : q < 128) : (q : Int) = ((UInt8.ofNat q).toNat : Int) := by simp; omega

set_option maxRecDepth 100000 in
set_option maxHeartbeats 1000000 in
theorem app_any {w : World} {B : Nat} {v : Value} {l : List UInt8} (n : Int) (h1 : -9223372036854775808 ≤ n) (h2 : n ≤ 9223372036854775807) (h : Ow w B v l) (hl : l.length ≤ 140737488350000) (hB : B ≤ w.heap.size) :
    Calls Try.prog 21 #[v, .int .i64 n] w fun e w' => ∃ v', e = .returned v' ∧ Ow w' B v' (l ++ Num.enc (Num.zig n)) ∧ Below B w w' := by
  have hz := Num.zig_lt n h1 h2
  go_enter Try.func21, Try.ntmps21
  go_wp2_with (go_at_call 24; refine (fold_any _ _ h1 h2).mono ?_; rintro e w' ⟨rfl, rfl⟩)
  go_loopw [0, 5] (fun s u wr => ∃ (q : Nat) (l' : List UInt8), q < 18446744073709551616 ∧ Hid (l' ++ Num.enc q = l ++ Num.enc (Num.zig n)) ∧ Hid (Ow wr B s l') ∧ Hid (Below B w wr) ∧ u = .int .u64 q) (fun _ u _ => (intOf u).toNat)
  case atStart => exact ⟨_, l, hz, rfl, h, Below.refl _ _, rfl⟩
  case round =>
    obtain ⟨q, l', hq, HE, HO, HB, rfl⟩ := hrel
    have hlen : l'.length ≤ 140737488350010 := by
      have e := congrArg List.length HE.out
      have := Num.enc_len10 hz
      simp only [List.length_append] at e
      omega
    have hBs : B ≤ wr.heap.size := Nat.le_trans hB HB.out.size
    clear hz h
    by_cases hc : 128 ≤ q
    · go_wp2_with (first | (at_builtin; refine push_law rfl _ _ rfl rfl rfl _ HO.out (byte_hi q) (by omega) hBs HB.out ?_; intro v1 w1 HO1 HB1))
      go_roundw
      case rel => exact ⟨q / 128, _, by omega, by unfold Hid; rw [List.append_assoc, ← HE.out, Num.enc_hi hc]; rfl, HO1, HB1, by go_num⟩
      case measure => simp [intOf]; omega
    · go_wp2_with (first | (at_builtin; refine push_law rfl _ _ rfl rfl rfl _ HO.out (byte_lo (q := q) (by omega)) (by omega) hBs HB.out ?_; intro v1 w1 HO1 HB1))
      go_ret
      refine ⟨_, rfl, ?_, HB1.out⟩
      rw [← HE.out, Num.enc_lo (by omega)]
      exact HO1.out

set_option maxRecDepth 100000 in
set_option maxHeartbeats 1000000 in
theorem put_any {A : Option Addr} {k c : Nat} {l : List UInt8} {w : World} (n : Int) (h1 : -9223372036854775808 ≤ n) (h2 : n ≤ 9223372036854775807) (h : Rd w A k c l) (hl : k ≤ 140737488350000) :
    Calls Try.prog 12 #[.slice A k c, .int .i64 n] w fun e w' => ∃ v', e = .returned v' ∧ Ow w' w.heap.size v' (l ++ Num.enc (Num.zig n)) ∧ Below w.heap.size w w' := by
  have hk := h.len
  have HK := Lib.hid hk
  clear hk
  have HR := Lib.hid h
  clear h
  go_enter Try.func12, Try.ntmps12
  go_wp2_with fail
  refine (room_any 10 HR.out (by omega)).mono ?_
  rintro e w1 ⟨rfl, HO, HB⟩
  have HO1 := Lib.hid HO
  have HB1 := Lib.hid HB
  clear HO HB
  go_wp2_with fail
  refine (app_any n h1 h2 HO1.out (by rw [HK.out]; exact hl) HB1.out.size).mono ?_
  rintro e w2 ⟨v', rfl, HO2, HB2⟩
  have HO3 := Lib.hid HO2
  have HB3 := Lib.hid HB2
  clear HO2 HB2
  go_wp2_with fail
  go_ret
  exact ⟨_, rfl, HO3.out, HB1.out.trans HB3.out⟩
end Go.Proofs.Ytgjpppgcocmlhaa
