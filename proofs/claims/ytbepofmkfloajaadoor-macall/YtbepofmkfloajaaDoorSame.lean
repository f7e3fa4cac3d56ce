/- The contracts of Same and Short. -/
import Derived.Test.YtbepofmkfloajaaDoorHmac
namespace Go.Proofs.YtbepofmkfloajaaDoor
set_option linter.unusedVariables false
set_option linter.unusedSimpArgs false
open Go.RowKit

theorem or_cell (a b : UInt8) : bits .or .u8 (a.toNat : Int) (b.toNat : Int) = ((a ||| b).toNat : Int) := by
  rw [u8_or_nat _ _ a.toNat_lt b.toNat_lt, UInt8.toNat_or]
theorem or_zero (x a b : UInt8) : (x ||| (a ^^^ b)) = 0 ↔ x = 0 ∧ a = b := by
  rw [UInt8.or_eq_zero_iff, UInt8.xor_eq_zero_iff]
theorem take_same (l r : List UInt8) (k : Nat) (h1 : k < l.length) (h2 : k < r.length) : l.take (k + 1) = r.take (k + 1) ↔ l.take k = r.take k ∧ l.getD k 0 = r.getD k 0 := by
  have e1 : l.getD k 0 = l[k] := by simp [List.getD_eq_getElem?_getD, List.getElem?_eq_getElem h1]
  have e2 : r.getD k 0 = r[k] := by simp [List.getD_eq_getElem?_getD, List.getElem?_eq_getElem h2]
  rw [show l.take (k + 1) = l.take k ++ [l[k]] from List.take_succ_eq_append_getElem h1, show r.take (k + 1) = r.take k ++ [r[k]] from List.take_succ_eq_append_getElem h2, e1, e2]
  constructor
  · intro h
    have := List.append_inj h (by simp; omega)
    exact ⟨this.1, by simpa using this.2⟩
  · rintro ⟨h, h'⟩
    rw [h, h']
theorem ret_bb {a b : Bool} (h : a = b) : Ending.returned (.bool a) = .returned (.bool b) := by rw [h]
def sameB (l r : List UInt8) : Bool := decide (l = r)

set_option maxRecDepth 100000 in
set_option maxHeartbeats 1000000 in
theorem same_any {w : World} {A A' : Option Addr} {n c n' c' : Nat} {l r : List UInt8} (h1 : Rd w A n c l) (h2 : Rd w A' n' c' r) :
    Calls Tryd.prog 29 #[.slice A n c, .slice A' n' c'] w fun e w' => e = .returned (.bool (sameB l r)) ∧ Below w.heap.size w w' := by
  have hc1 := h1.cap
  have hm1 := h1.max
  unfold maxLen at hm1
  have HR1 := Lib.hid h1
  have HR2 := Lib.hid h2
  have HL1 := Lib.hid h1.len
  have HL2 := Lib.hid h2.len
  clear h1 h2
  by_cases hn : n = n'
  · subst hn
    go_enter Tryd.func29, Tryd.ntmps29
    go_wp2_with fail
    go_loopw [5, 14] (fun u i wr => ∃ (k : Nat) (x : UInt8), k ≤ n ∧ i = .int .i64 k ∧ u = .int .u8 (x.toNat : Int) ∧ Hid (x = 0 ↔ l.take k = r.take k) ∧ Hid (Below w.heap.size w wr)) (fun _ i _ => n - (intOf i).toNat)
    case atStart => exact ⟨0, 0, by omega, rfl, rfl, by unfold Hid; simp, Below.refl _ _⟩
    case round =>
      obtain ⟨k, x, hk, rfl, rfl, HX, HW⟩ := hrel
      by_cases hlt : k < n
      · obtain ⟨b, off, rfl, hblt, hcell⟩ := HR1.out.at_ (by omega)
        obtain ⟨b', off', rfl, hblt', hcell'⟩ := HR2.out.at_ (by omega)
        have c0 : wr.drew.cell? ⟨b, off + k, none⟩ = some (.int .u8 ((l.getD k 0).toNat : Int)) := (HW.out.cell (p := ⟨b, off + k, none⟩) hblt).trans (hcell k hlt)
        have c1 : wr.drew.cell? ⟨b', off' + k, none⟩ = some (.int .u8 ((r.getD k 0).toNat : Int)) := (HW.out.cell (p := ⟨b', off' + k, none⟩) hblt').trans (hcell' k hlt)
        have HX2 : Hid ((x ||| (l.getD k 0 ^^^ r.getD k 0)) = 0 ↔ l.take (k + 1) = r.take (k + 1)) := by
          unfold Hid
          rw [or_zero, take_same l r k (by rw [HL1.out]; exact hlt) (by rw [HL2.out]; exact hlt), HX.out]
        have HW2 := Lib.hid HW.out.drew
        clear hcell hcell' HX HW
        generalize l.getD k 0 = y at *
        generalize r.getD k 0 = z at *
        have bk : (k : Int) < (n : Int) := by omega
        go_wp2_with fail
        refine wp_region_still_lit (by kernel_rfl) (by kernel_rfl) ?_
        have hD : ({ wr with drawn := wr.drawn + 1 } : World) = wr.drew := rfl
        rw [hD]
        clear hD
        generalize wr.drew = w2 at *
        repeat still_step
        refine wpStill_nil ?_
        rw [xor_cell, or_cell]
        go_wp2_with fail
        go_roundw
        case rel => exact ⟨k + 1, x ||| (y ^^^ z), by omega, by go_num, rfl, HX2, HW2⟩
        case measure => simp [intOf]; omega
      · have HX2 : Hid (x = 0 ↔ l = r) := by
          have := HX.out
          rw [List.take_of_length_le (by rw [HL1.out]; omega), List.take_of_length_le (by rw [HL2.out]; omega)] at this
          exact this
        clear HX
        go_wp2_with fail
        go_ret
        have hb : ((x.toNat : Int) == 0) = sameB l r := by
          unfold sameB
          rw [Bool.eq_iff_iff, decide_eq_true_iff, ← HX2.out]
          simp [← UInt8.toNat_inj]
        exact ⟨ret_bb hb, HW.out⟩
  · have hnb : ((n : Int) != (n' : Int)) = true := by simp; omega
    have HF : Hid (sameB l r = false) := by
      unfold Hid sameB
      rw [decide_eq_false_iff_not]
      intro h
      rw [h] at HL1
      exact hn (HL1.out.symm.trans HL2.out)
    go_enter Tryd.func29, Tryd.ntmps29
    go_wp2_with fail
    go_ret
    rw [HF.out]
    exact ⟨rfl, Below.refl _ _⟩

set_option maxRecDepth 100000 in
set_option maxHeartbeats 400000 in
theorem short_any {A : Option Addr} {k c : Nat} {l : List UInt8} {w : World} (n : Nat) (h : Rd w A k c l) (hn : n ≤ 1000) :
    Calls Tryd.prog 16 #[.slice A k c, .int .i64 n] w fun e w' => ∃ A' k' c', e = .returned (.slice A' k' c') ∧ Rd w A' k' c' (l.take n) ∧ w = w' := by
  have hc := h.cap
  have hm := h.max
  unfold maxLen at hm
  have HR := Lib.hid h
  have HL := Lib.hid h.len
  clear h
  by_cases hk : n < k
  · have hsl := slice_h A k c n (by omega) w
    have hr := HR.out.cut (k := 0) (e := n) (by omega) (by omega)
    simp only [List.drop_zero, Nat.sub_zero] at hr
    have HR2 := Lib.hid hr
    clear hr
    go_enter Tryd.func16, Tryd.ntmps16
    go_wp2
    go_ret
    exact ⟨_, _, _, rfl, HR2.out, rfl⟩
  · go_enter Tryd.func16, Tryd.ntmps16
    go_wp2
    go_ret
    refine ⟨_, _, _, rfl, ?_, rfl⟩
    rw [List.take_of_length_le (by rw [HL.out]; omega)]
    exact HR.out
end Go.Proofs.YtbepofmkfloajaaDoor
