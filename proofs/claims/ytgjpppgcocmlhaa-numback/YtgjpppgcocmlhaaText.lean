/- Contracts of GetText and of the document's own; cuts of bytes; bytes as a string. -/
import Derived.Test.YtgjpppgcocmlhaaRefGet
import Derived.Test.YtgjpppgcocmlhaaRoom
import Derived.Laws.BytesArg
namespace Go.Proofs.Ytgjpppgcocmlhaa
open Go.RowKit

namespace Num
/-- Get tells no more bytes than there are. -/
theorem got_facts : ∀ (l : List UInt8) (i u : Nat), ((got l i u).err = 0 ∧ i < (got l i u).cnt ∧ (got l i u).cnt ≤ i + l.length) ∨ (((got l i u).err = 1 ∨ (got l i u).err = 2) ∧ (got l i u).cnt = 0 ∧ (got l i u).num = 0) := by
  intro l
  induction l with
  | nil => intro i u; right; simp [got]
  | cons c r ih =>
    intro i u
    rw [got]
    split
    · right; simp
    · split
      · have := ih (i + 1) (u + c.toNat % 128 * 128 ^ i)
        simp only [List.length_cons]
        omega
      · split
        · right; simp
        · left; simp

theorem got_ten : ∀ (l : List UInt8) (i u : Nat), i ≤ 9 → (got l i u).cnt ≤ 10 := by
  intro l
  induction l with
  | nil => intro i u _; simp [got]
  | cons c r ih =>
    intro i u hi
    rw [got]
    split
    · simp
    · split
      · exact ih (i + 1) _ (by omega)
      · split
        · simp
        · simp; omega

structure Txt where
  txt : List UInt8
  cnt : Nat
  err : Int

/-- What GetText tells, where Get tells g. -/
def textOf (l : List UInt8) (g : Got) : Txt :=
  if g.err ≠ 0 then ⟨[], 0, g.err⟩
  else if g.num < 0 ∨ 1048576 < g.num then ⟨[], 0, 1⟩
  else if l.length < g.cnt + g.num.toNat then ⟨[], 0, 2⟩
  else ⟨(l.drop g.cnt).take g.num.toNat, g.cnt + g.num.toNat, 0⟩
def text (l : List UInt8) : Txt := textOf l (got l 0 0)
end Num

/-- The address behind a cut 's[k:..]'. -/
def cutA (A : Option Addr) (c k : Nat) : Option Addr := if c = k then A else A.map (·.add k)

theorem slice_lh (A : Option Addr) (n c k e : Nat) (h1 : k ≤ e) (h2 : e ≤ c) (W : World) :
    (Instr.slice 22 (.slice A n c) (some (.int .i64 (k : Int))) (some (.int .i64 (e : Int))) none).run Try.prog W = .ok (.slice (cutA A c k) (e - k) (c - k)) W := by
  obtain ⟨i0, hi, hz0, hz1, hz2⟩ := info_parts info5
  have hel : Try.prog.elem 22 = 5 := by kernel_rfl
  have := run_slice_lh (P := Try.prog) W 22 A n c (by rw [hel]; exact Try.underlying22) .i64 .i64 (k : Int) (e : Int) (by omega) (by omega) (by omega)
  rw [this, hel]
  simp [sizeOf, typeInfo, hi, hz1, sliced, cutA]

theorem slice_l (A : Option Addr) (n c k : Nat) (h1 : k ≤ n) (W : World) :
    (Instr.slice 22 (.slice A n c) (some (.int .i64 (k : Int))) none none).run Try.prog W = .ok (.slice (cutA A c k) (n - k) (c - k)) W := by
  obtain ⟨i0, hi, hz0, hz1, hz2⟩ := info_parts info5
  have hel : Try.prog.elem 22 = 5 := by kernel_rfl
  have := run_slice_l (P := Try.prog) W 22 A n c (by rw [hel]; exact Try.underlying22) .i64 (k : Int) (by omega) (by omega)
  rw [this, hel]
  simp [sizeOf, typeInfo, hi, hz1, sliced, cutA]

theorem slice_h (A : Option Addr) (n c e : Nat) (h2 : e ≤ c) (W : World) :
    (Instr.slice 22 (.slice A n c) none (some (.int .i64 (e : Int))) none).run Try.prog W = .ok (.slice (cutA A c 0) e c) W := by
  obtain ⟨i0, hi, hz0, hz1, hz2⟩ := info_parts info5
  have hel : Try.prog.elem 22 = 5 := by kernel_rfl
  have := run_slice_h (P := Try.prog) W 22 A n c (by rw [hel]; exact Try.underlying22) .i64 (e : Int) (by omega) (by omega)
  rw [this, hel]
  simp [sizeOf, typeInfo, hi, hz1, sliced, cutA]

theorem Rd.cut {w : World} {A : Option Addr} {n c k e : Nat} {l : List UInt8} (h : Rd w A n c l) (h1 : k ≤ e) (h2 : e ≤ n) : Rd w (cutA A c k) (e - k) (c - k) ((l.drop k).take (e - k)) := by
  have hl := h.len
  have hc := h.cap
  have hm := h.max
  refine ⟨by simp; omega, by omega, by omega, fun h0 => ?_⟩
  obtain ⟨b, off, rfl, hlt, hcell⟩ := h.at_ (by omega)
  refine ⟨b, off + k, ?_, hlt, fun j hj => ?_⟩
  · unfold cutA
    rw [if_neg (by omega)]
    simp only [Option.map_some, Addr.add]
    split
    · simp_all
    · rfl
  · rw [Nat.add_assoc, hcell (k + j) (by omega)]
    congr 2
    simp only [List.getD_eq_getElem?_getD, List.getElem?_take, List.getElem?_drop]
    rw [if_pos hj]

theorem str_of (l : List UInt8) : strOfNums (l.map fun b => (b.toNat : Int)) = ⟨l.toArray⟩ := by
  unfold strOfNums
  simp [Function.comp_def]

theorem conv_bytes {w : World} {A : Option Addr} {n c : Nat} {l : List UInt8} (h : Rd w A n c l) : (convert 22 9 (.slice A n c)).run Try.prog w = .ok (.string ⟨l.toArray⟩) w := by
  rcases Nat.eq_zero_or_pos n with h0 | h0
  · subst h0
    obtain rfl : l = [] := List.eq_nil_of_length_eq_zero h.len
    cases A with
    | none => exact run_convert_bytes_nil (P := Try.prog) w 22 5 Try.underlying22 Try.underlying5 0 c 9 Try.underlying9
    | some a =>
      rw [run_convert_bytes_string w 22 9 5 _ 0 c Try.underlying22 Try.underlying5 Try.underlying9, run_bytesToString w a 0 c [] (by rfl)]
      rfl
  · obtain ⟨b, off, rfl, _, hc⟩ := h.at_ h0
    rw [← str_of l]
    refine run_convert_bytes_arg (P := Try.prog) w 22 5 Try.underlying22 Try.underlying5 b off n c _ (by simpa using h.len) (fun i hi => ?_) 9 Try.underlying9
    rw [hc i hi]
    have hi' : i < l.length := by rw [h.len]; exact hi
    simp [cellOf, List.getD_eq_getElem?_getD, List.getElem?_eq_getElem hi']

theorem ret3s {k2 k3 : IntKind} {a a' : ByteArray} {b c b' c' : Int} (h1 : a = a') (h2 : b = b') (h3 : c = c') :
    Ending.returned (.tuple #[.string a, .int k2 b, .int k3 c]) = .returned (.tuple #[.string a', .int k2 b', .int k3 c']) := by rw [h1, h2, h3]


set_option maxRecDepth 100000 in
set_option maxHeartbeats 1000000 in
theorem gtext_of {A : Option Addr} {n c : Nat} {l : List UInt8} {w : World} (g : Num.Got) (h10 : g.cnt ≤ 10) (h : Rd w A n c l) (hf : (g.err = 0 ∧ 0 < g.cnt ∧ g.cnt ≤ 0 + l.length) ∨ ((g.err = 1 ∨ g.err = 2) ∧ g.cnt = 0 ∧ g.num = 0))
    (hget : Hid (Calls Try.prog 14 #[.slice A n c] w fun e w' => e = .returned (.tuple #[.int .i64 g.num, .int .i64 g.cnt, .int .i64 g.err]) ∧ w = w')) :
    Calls Try.prog 16 #[.slice A n c] w fun e w' => e = .returned (.tuple #[.string ⟨(Num.textOf l g).txt.toArray⟩, .int .i64 (Num.textOf l g).cnt, .int .i64 (Num.textOf l g).err]) ∧ w = w' := by
  have hcap := h.cap
  have hmax := h.max
  unfold maxLen at hmax
  have HR := Lib.hid h
  have HL := Lib.hid h.len
  clear h
  rw [HL.out] at hf
  obtain ⟨gn, gc, ge⟩ := g
  simp only at hf hget h10
  rcases hf with ⟨rfl, hc1, hc2⟩ | ⟨he, rfl, rfl⟩
  · by_cases hr : gn < 0 ∨ 1048576 < gn
    · have HT : Hid (Num.textOf l ⟨gn, gc, 0⟩ = ⟨[], 0, 1⟩) := by unfold Hid Num.textOf; rw [if_neg (by simp), if_pos hr]
      rcases hr with hr | hr
      all_goals
        go_enter Try.func16, Try.ntmps16
        go_wp2_with (go_at_call 14; refine hget.out.mono ?_; rintro e w' ⟨rfl, rfl⟩)
        go_ret3
        rw [HT.out]
        exact ⟨rfl, rfl⟩
    · have hlo : 0 ≤ gn := by omega
      obtain ⟨m, rfl⟩ := Int.eq_ofNat_of_zero_le hlo
      have hm : m ≤ 1048576 := by omega
      clear hlo
      by_cases ht : n < gc + m
      · have HT : Hid (Num.textOf l ⟨(m : Int), gc, 0⟩ = ⟨[], 0, 2⟩) := by unfold Hid Num.textOf; rw [if_neg (by simp), if_neg hr, if_pos (by rw [HL.out]; simpa using ht)]
        clear hr
        go_enter Try.func16, Try.ntmps16
        go_wp2_with (go_at_call 14; refine hget.out.mono ?_; rintro e w' ⟨rfl, rfl⟩)
        go_ret3
        rw [HT.out]
        exact ⟨rfl, rfl⟩
      · have HT : Hid (Num.textOf l ⟨(m : Int), gc, 0⟩ = ⟨(l.drop gc).take m, gc + m, 0⟩) := by unfold Hid Num.textOf; rw [if_neg (by simp), if_neg hr, if_neg (by rw [HL.out]; simpa using ht)]; simp
        clear hr
        have hsl := slice_lh A n c gc (gc + m) (by omega) (by omega) w
        have hcv := conv_bytes (HR.out.cut (k := gc) (e := gc + m) (by omega) (by omega))
        have e1 : ((gc + m : Nat) : Int) = (gc : Int) + (m : Int) := by omega
        have e2 : gc + m - gc = m := by omega
        rw [e1, e2] at hsl
        rw [e2] at hcv
        clear e1 e2
        go_enter Try.func16, Try.ntmps16
        go_wp2_with (go_at_call 14; refine hget.out.mono ?_; rintro e w' ⟨rfl, rfl⟩)
        go_ret3
        rw [HT.out]
        exact ⟨ret3s rfl (by show _ = ((gc + m : Nat) : Int); omega) rfl, rfl⟩
  · have HT : Hid (Num.textOf l ⟨0, 0, ge⟩ = ⟨[], 0, ge⟩) := by unfold Hid Num.textOf; rw [if_pos (by simp; omega)]
    have hne : (ge != 0) = true := by rw [bne_iff_ne]; omega
    have HE := Lib.hid he
    clear he
    go_enter Try.func16, Try.ntmps16
    go_wp2_with (go_at_call 14; refine hget.out.mono ?_; rintro e w' ⟨rfl, rfl⟩)
    go_ret3
    rw [HT.out]
    exact ⟨rfl, rfl⟩

theorem gtext_any {A : Option Addr} {n c : Nat} {l : List UInt8} {w : World} (h : Rd w A n c l) :
    Calls Try.prog 16 #[.slice A n c] w fun e w' => e = .returned (.tuple #[.string ⟨(Num.text l).txt.toArray⟩, .int .i64 (Num.text l).cnt, .int .i64 (Num.text l).err]) ∧ w = w' :=
  gtext_of (Num.got l 0 0) (Num.got_ten l 0 0 (by omega)) h (Num.got_facts l 0 0) (get_any h)

set_option maxRecDepth 100000 in
set_option maxHeartbeats 1000000 in
theorem rtext_of {A : Option Addr} {n c : Nat} {l : List UInt8} {w : World} (g : Num.Got) (h10 : g.cnt ≤ 10) (h : Rd w A n c l) (hf : (g.err = 0 ∧ 0 < g.cnt ∧ g.cnt ≤ 0 + l.length) ∨ ((g.err = 1 ∨ g.err = 2) ∧ g.cnt = 0 ∧ g.num = 0))
    (hget : Hid (Calls Try.prog 19 #[.slice A n c] w fun e w' => e = .returned (.tuple #[.int .i64 g.num, .int .i64 g.cnt, .int .i64 g.err]) ∧ w = w')) :
    Calls Try.prog 20 #[.slice A n c] w fun e w' => e = .returned (.tuple #[.string ⟨(Num.textOf l g).txt.toArray⟩, .int .i64 (Num.textOf l g).cnt, .int .i64 (Num.textOf l g).err]) ∧ w = w' := by
  have hcap := h.cap
  have hmax := h.max
  unfold maxLen at hmax
  have HR := Lib.hid h
  have HL := Lib.hid h.len
  clear h
  rw [HL.out] at hf
  obtain ⟨gn, gc, ge⟩ := g
  simp only at hf hget h10
  rcases hf with ⟨rfl, hc1, hc2⟩ | ⟨he, rfl, rfl⟩
  · by_cases hr : gn < 0 ∨ 1048576 < gn
    · have HT : Hid (Num.textOf l ⟨gn, gc, 0⟩ = ⟨[], 0, 1⟩) := by unfold Hid Num.textOf; rw [if_neg (by simp), if_pos hr]
      rcases hr with hr | hr
      all_goals
        go_enter Try.func20, Try.ntmps20
        go_wp2_with (go_at_call 19; refine hget.out.mono ?_; rintro e w' ⟨rfl, rfl⟩)
        go_ret3
        rw [HT.out]
        exact ⟨rfl, rfl⟩
    · have hlo : 0 ≤ gn := by omega
      obtain ⟨m, rfl⟩ := Int.eq_ofNat_of_zero_le hlo
      have hm : m ≤ 1048576 := by omega
      clear hlo
      by_cases ht : n < gc + m
      · have HT : Hid (Num.textOf l ⟨(m : Int), gc, 0⟩ = ⟨[], 0, 2⟩) := by unfold Hid Num.textOf; rw [if_neg (by simp), if_neg hr, if_pos (by rw [HL.out]; simpa using ht)]
        clear hr
        go_enter Try.func20, Try.ntmps20
        go_wp2_with (go_at_call 19; refine hget.out.mono ?_; rintro e w' ⟨rfl, rfl⟩)
        go_ret3
        rw [HT.out]
        exact ⟨rfl, rfl⟩
      · have HT : Hid (Num.textOf l ⟨(m : Int), gc, 0⟩ = ⟨(l.drop gc).take m, gc + m, 0⟩) := by unfold Hid Num.textOf; rw [if_neg (by simp), if_neg hr, if_neg (by rw [HL.out]; simpa using ht)]; simp
        clear hr
        have hsl := slice_lh A n c gc (gc + m) (by omega) (by omega) w
        have hcv := conv_bytes (HR.out.cut (k := gc) (e := gc + m) (by omega) (by omega))
        have e1 : ((gc + m : Nat) : Int) = (gc : Int) + (m : Int) := by omega
        have e2 : gc + m - gc = m := by omega
        rw [e1, e2] at hsl
        rw [e2] at hcv
        clear e1 e2
        go_enter Try.func20, Try.ntmps20
        go_wp2_with (go_at_call 19; refine hget.out.mono ?_; rintro e w' ⟨rfl, rfl⟩)
        go_ret3
        rw [HT.out]
        exact ⟨ret3s rfl (by show _ = ((gc + m : Nat) : Int); omega) rfl, rfl⟩
  · have HT : Hid (Num.textOf l ⟨0, 0, ge⟩ = ⟨[], 0, ge⟩) := by unfold Hid Num.textOf; rw [if_pos (by simp; omega)]
    have hne : (ge != 0) = true := by rw [bne_iff_ne]; omega
    have HE := Lib.hid he
    clear he
    go_enter Try.func20, Try.ntmps20
    go_wp2_with (go_at_call 19; refine hget.out.mono ?_; rintro e w' ⟨rfl, rfl⟩)
    go_ret3
    rw [HT.out]
    exact ⟨rfl, rfl⟩

theorem rtext_any {A : Option Addr} {n c : Nat} {l : List UInt8} {w : World} (h : Rd w A n c l) :
    Calls Try.prog 20 #[.slice A n c] w fun e w' => e = .returned (.tuple #[.string ⟨(Num.text l).txt.toArray⟩, .int .i64 (Num.text l).cnt, .int .i64 (Num.text l).err]) ∧ w = w' :=
  rtext_of (Num.got l 0 0) (Num.got_ten l 0 0 (by omega)) h (Num.got_facts l 0 0) (rget_any h)
end Go.Proofs.Ytgjpppgcocmlhaa
