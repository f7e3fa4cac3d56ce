/- Contracts of PutText, Four, and of the document's own Put and PutText. -/
import Derived.Test.YtgjpppgcocmlhaaText
import Derived.Lib.AppendStr
namespace Go.Proofs.Ytgjpppgcocmlhaa
open Go.RowKit

theorem strCells_eq (s : ByteArray) : Lib.strCells s = s.data.toList.map cellOf := rfl
theorem size_data (s : ByteArray) : s.data.toList.length = s.size := by rw [Array.length_toList]; rfl

/-- 'append(x, s...)' of a string, x nil or the call's own. -/
theorem pushes_law {ops : Array Oper} {rest : List Oper} {o : Oper} {a : Act} {Q : Exit → Act → World → Prop} {wr w0 : World} {B : Nat} {v : Value} {l : List UInt8} (hgd : o.guard = none) (s x : Operand)
    (ho : o.op = .call { callee := .builtin .append, args := #[s, x], argTypes := #[22, 9] }) (hs : a.eval s = v) (t : ByteArray) (hx : a.eval x = .string t) (hown : Ow wr B v l)
    (hlen : l.length + t.size ≤ 140737488355328) (hB : B ≤ wr.heap.size) (hbel : Below B w0 wr)
    (h : ∀ v' w', Hid (Ow w' B v' (l ++ t.data.toList)) → Hid (Below B w0 w') → wpList Try.prog ops Q rest (a.put o.dst v') w') : wpList Try.prog ops Q (o :: rest) a wr := by
  obtain ⟨i0, hi, hz0, hz1, hz2⟩ := info_parts info5
  refine Lib.wpList_append_own_string _ hgd s x 22 9 ho B 5 i0 Try.underlying22 Try.underlying9 hi hz0 hz1 hz2 v l.length (l.map cellOf) hs hown t hx (by unfold maxLen; omega) hlen hB ?_
  intro v' w' h2 h3 _
  rw [strCells_eq] at h2
  refine h v' w' (by unfold Hid Ow; simpa [size_data] using h2) ?_
  exact hbel.grown h3 hB fun k hk => (World.ownsRow.lt hown k hk).1

set_option maxRecDepth 100000 in
set_option maxHeartbeats 1000000 in
theorem ptext_any {A : Option Addr} {k c : Nat} {l : List UInt8} {w : World} (t : ByteArray) (h : Rd w A k c l) (hl : k ≤ 1000000) (ht : t.size ≤ 1000000) :
    Calls Try.prog 15 #[.slice A k c, .string t] w fun e w' => ∃ v', e = .returned v' ∧ Ow w' w.heap.size v' (l ++ Num.enc (Num.zig t.size) ++ t.data.toList) ∧ Below w.heap.size w w' := by
  have HK := Lib.hid h.len
  have HR := Lib.hid h
  clear h
  have hz := Lib.hid (Num.enc_len10 (Num.zig_lt t.size (by omega) (by omega)))
  have hroom := Lib.hid (room_any (10 + t.size) HR.out (by omega))
  have e1 : ((10 + t.size : Nat) : Int) = 10 + (t.size : Int) := by omega
  rw [e1] at hroom
  clear e1
  go_enter Try.func15, Try.ntmps15
  go_wp2_with fail
  refine hroom.out.mono ?_
  rintro e w1 ⟨rfl, HO, HB⟩
  have HO1 := Lib.hid HO
  have HB1 := Lib.hid HB
  clear HO HB
  go_wp2_with fail
  refine (app_any (t.size : Int) (by omega) (by omega) HO1.out (by rw [HK.out]; omega) HB1.out.size).mono ?_
  rintro e w2 ⟨v', rfl, HO2, HB2⟩
  have HO3 := Lib.hid HO2
  have HB3 := Lib.hid HB2
  clear HO2 HB2
  have hs2 : w.heap.size ≤ w2.heap.size := Nat.le_trans HB1.out.size HB3.out.size
  go_wp2_with (first | (at_builtin; refine pushes_law rfl _ _ rfl rfl t rfl HO3.out (by have := hz.out; rw [List.length_append, HK.out]; omega) hs2 (HB1.out.trans HB3.out) ?_; intro v1 w3 HO4 HB4))
  go_ret
  exact ⟨_, rfl, HO4.out, HB4.out⟩

/-- '^' of 2 n below 0. -/
theorem not_twice (n : Int) (h1 : -9223372036854775808 ≤ n) (hn : n < 0) : bits .xor .u64 IntKind.u64.max (IntKind.u64.wrap (IntKind.u64.wrap n * 2)) = ((Num.zig n : Nat) : Int) := by
  have e : IntKind.u64.wrap (IntKind.u64.wrap n * 2) = (((18446744073709551616 + 2 * n).toNat : Nat) : Int) := by
    rw [IntKind.wrap_u64, IntKind.wrap_u64]
    omega
  rw [e]
  show IntKind.u64.wrap ((BitVec.ofInt 64 IntKind.u64.max ^^^ BitVec.ofInt 64 _).toNat : Int) = _
  have h1' : BitVec.ofInt 64 IntKind.u64.max = BitVec.allOnes 64 := by decide
  rw [h1', BitVec.allOnes_xor, BitVec.toNat_not, ofInt_u64 _ (by omega), IntKind.wrap_u64]
  unfold Num.zig
  rw [if_pos hn]
  omega

theorem twice (n : Int) (h0 : 0 ≤ n) : (n : Int) * 2 = ((Num.zig n : Nat) : Int) := by
  unfold Num.zig
  rw [if_neg (by omega)]
  omega

theorem Ow.empty (w : World) (B : Nat) : Ow w B (.slice none 0 0) [] := World.ownsRow_nil w B 5 1

theorem byte_hi2 (q : Nat) : IntKind.u8.wrap ((q : Int) % 128 + 128) = ((UInt8.ofNat (q % 128 + 128)).toNat : Int) := by
  rw [IntKind.wrap_u8]
  simp

set_option maxRecDepth 100000 in
set_option maxHeartbeats 1000000 in
theorem rput_any (n : Int) (w : World) (h1 : -9223372036854775808 ≤ n) (h2 : n ≤ 9223372036854775807) :
    Calls Try.prog 13 #[.int .i64 n] w fun e w' => ∃ v', e = .returned v' ∧ Ow w' w.heap.size v' (Num.enc (Num.zig n)) ∧ Below w.heap.size w w' := by
  have hz := Num.zig_lt n h1 h2
  by_cases hn : n < 0
  all_goals
    first
      | have hx := not_twice n h1 hn
      | have hx := twice n (by omega)
    generalize Num.zig n = z at hz hx
    go_enter Try.func13, Try.ntmps13
    go_wp2
    clear hx
    go_loopw [3, 4] (fun u s wr => ∃ (q : Nat) (l' : List UInt8), q < 18446744073709551616 ∧ Hid (l' ++ Num.enc q = Num.enc z) ∧ Hid (Ow wr w.heap.size s l') ∧ Hid (Below w.heap.size w wr) ∧ u = .int .u64 q) (fun u _ _ => (intOf u).toNat)
    case atStart => exact ⟨z, [], hz, rfl, Ow.empty _ _, Below.refl _ _, rfl⟩
    case round =>
      obtain ⟨q, l', hq, HE, HO, HB, rfl⟩ := hrel
      have hlen : l'.length ≤ 10 := by
        have e := congrArg List.length HE.out
        have := Num.enc_len10 hz
        simp only [List.length_append] at e
        omega
      have hBs : w.heap.size ≤ wr.heap.size := HB.out.size
      clear hz
      by_cases hc : 128 ≤ q
      · go_wp2_with (first | (at_builtin; refine push_law rfl _ _ rfl rfl rfl _ HO.out (by first | exact byte_hi q | exact byte_hi2 q) (by omega) hBs HB.out ?_; intro v1 w1 HO1 HB1))
        go_roundw
        case rel => exact ⟨q / 128, _, by omega, by unfold Hid; rw [List.append_assoc, ← HE.out, Num.enc_hi hc]; rfl, HO1, HB1, by go_num⟩
        case measure => simp [intOf]; omega
      · go_wp2_with (first | (at_builtin; refine push_law rfl _ _ rfl rfl rfl _ HO.out (byte_lo (q := q) (by omega)) (by omega) hBs HB.out ?_; intro v1 w1 HO1 HB1))
        go_ret
        refine ⟨_, rfl, ?_, HB1.out⟩
        rw [← HE.out, Num.enc_lo (by omega)]
        exact HO1.out

set_option maxRecDepth 100000 in
set_option maxHeartbeats 1000000 in
theorem rptext_any (t : ByteArray) (w : World) (ht : t.size ≤ 1000000) :
    Calls Try.prog 17 #[.string t] w fun e w' => ∃ v', e = .returned v' ∧ Ow w' w.heap.size v' (Num.enc (Num.zig t.size) ++ t.data.toList) ∧ Below w.heap.size w w' := by
  have hz := Lib.hid (Num.enc_len10 (Num.zig_lt t.size (by omega) (by omega)))
  go_enter Try.func17, Try.ntmps17
  go_wp2_with fail
  refine (rput_any (t.size : Int) _ (by omega) (by omega)).mono ?_
  rintro e w2 ⟨v', rfl, HO2, HB2⟩
  have HO3 := Lib.hid HO2
  have HB3 := Lib.hid HB2
  clear HO2 HB2
  have hs2 : w.heap.size ≤ w2.heap.size := HB3.out.size
  go_wp2_with (first | (at_builtin; refine pushes_law rfl _ _ rfl rfl t rfl HO3.out (by have := hz.out; omega) hs2 HB3.out ?_; intro v1 w3 HO4 HB4))
  go_ret
  exact ⟨_, rfl, HO4.out, HB4.out⟩

/-- The four bytes of a number, the highest first. -/
def four (u : Nat) : List UInt8 := [UInt8.ofNat (u / 16777216), UInt8.ofNat (u / 65536), UInt8.ofNat (u / 256), UInt8.ofNat u]

set_option maxRecDepth 100000 in
set_option maxHeartbeats 1000000 in
theorem four_any (u : Nat) (w : World) (hu : u < 4294967296) :
    Calls Try.prog 18 #[.int .u32 u] w fun e w' => ∃ v', e = .returned v' ∧ Ow w' w.heap.size v' (four u) ∧ Below w.heap.size w w' := by
  go_enter Try.func18, Try.ntmps18
  go_wp2
  go_ret
  refine ⟨_, rfl, ?_, (Below.refl _ _).alloc (Nat.le_refl _) _⟩
  have := World.ownsRow_lit (base := w.heap.size) (e := 5) (size := 1) w #[.int .u8 ((u : Int) / 16777216), .int .u8 ((u : Int) / 65536 % 256), .int .u8 ((u : Int) / 256 % 256), .int .u8 ((u : Int) % 256)] 4 (Nat.le_refl _) (by unfold maxLen; omega) rfl
  have e : [Value.int .u8 ((u : Int) / 16777216), .int .u8 ((u : Int) / 65536 % 256), .int .u8 ((u : Int) / 256 % 256), .int .u8 ((u : Int) % 256)] = (four u).map cellOf := by
    simp [four, cellOf]
    omega
  unfold Ow
  rw [← e]
  exact this

set_option maxRecDepth 100000 in
set_option maxHeartbeats 400000 in
theorem short_any {A : Option Addr} {k c : Nat} {l : List UInt8} {w : World} (n : Nat) (h : Rd w A k c l) (hn : n ≤ 1000) :
    Calls Try.prog 10 #[.slice A k c, .int .i64 n] w fun e w' => ∃ A' k' c', e = .returned (.slice A' k' c') ∧ Rd w A' k' c' (l.take n) ∧ w = w' := by
  have hc := h.cap
  have hm := h.max
  unfold maxLen at hm
  have HR := Lib.hid h
  have HL := Lib.hid h.len
  clear h
  by_cases hk : n < k
  · have hsl := slice_h A k c n (by omega) w
    have hr := HR.out.cut (k := 0) (e := n) (by omega) (by omega)
    simp only [List.drop_zero, Nat.sub_zero] at hr
    have HR2 := Lib.hid hr
    clear hr
    go_enter Try.func10, Try.ntmps10
    go_wp2
    go_ret
    exact ⟨_, _, _, rfl, HR2.out, rfl⟩
  · go_enter Try.func10, Try.ntmps10
    go_wp2
    go_ret
    refine ⟨_, _, _, rfl, ?_, rfl⟩
    rw [List.take_of_length_le (by rw [HL.out]; omega)]
    exact HR.out

set_option maxRecDepth 100000 in
set_option maxHeartbeats 400000 in
theorem cut_any {s : ByteArray} {w : World} (n : Nat) (_hs : s.size ≤ maxLen) (hn : n ≤ 1000) :
    Calls Try.prog 11 #[.string s, .int .i64 n] w fun e w' => ∃ t : ByteArray, e = .returned (.string t) ∧ t.size ≤ n ∧ w = w' := by
  unfold maxLen at _hs
  by_cases hk : n < s.size
  · go_enter Try.func11, Try.ntmps11
    go_wp2
    go_ret
    exact ⟨_, rfl, by simp; omega, rfl⟩
  · go_enter Try.func11, Try.ntmps11
    go_wp2
    go_ret
    exact ⟨_, rfl, by omega, rfl⟩
end Go.Proofs.Ytgjpppgcocmlhaa
