/- The contract of the statements' own beginning: some numbers. -/
import Derived.Test.YtgjpppgcocmlhaaMore
namespace Go.Proofs.Ytgjpppgcocmlhaa
open Go.RowKit

/-- A slice literal's bytes can be read. -/
theorem Rd.lit (w : World) (l : List UInt8) (n : Nat) (hl : l.length = n) (hn : n ≤ maxLen) : Rd (w.alloc (.cells (l.map cellOf).toArray 5)) (some ⟨w.heap.size, 0, none⟩) n n l := by
  refine ⟨hl, Nat.le_refl _, hn, fun _ => ⟨w.heap.size, 0, rfl, by simp, fun j hj => ?_⟩⟩
  have hj' : j < l.length := by omega
  have hg : (w.alloc (.cells (l.map cellOf).toArray 5)).heap[w.heap.size]? = some (.cells (l.map cellOf).toArray 5 (0, 0)) := heap_alloc_new w _
  rw [Nat.zero_add, cell_of_row _ _ _ _ _ _ hg]
  simp [List.getD_eq_getElem?_getD, List.getElem?_eq_getElem hj']

theorem Ow.slice {w : World} {base : Nat} {v : Value} {l : List UInt8} (n : Nat) (h : Ow w base v l) (hn : l.length = n) (h0 : 0 < n) :
    ∃ g c, v = .slice (some ⟨g, 0, none⟩) n c ∧ base ≤ g ∧ g < w.heap.size ∧ Rd w (some ⟨g, 0, none⟩) n c l := by
  subst hn
  obtain ⟨g, c, rfl, h1, h2⟩ := h.form h0
  exact ⟨g, c, rfl, h1, h2, h.rd rfl⟩

theorem lit_ab : ([] : List UInt8) ++ Num.enc (Num.zig ((⟨#[97, 98]⟩ : ByteArray).size : Int)) ++ (⟨#[97, 98]⟩ : ByteArray).data.toList = [4, 97, 98] := by
  have e : Num.zig ((⟨#[97, 98]⟩ : ByteArray).size : Int) = 4 := by rfl
  rw [e, Num.enc_lo (by omega)]
  rfl
theorem lit_one : ([] : List UInt8) ++ Num.enc (Num.zig (-1)) = [1] := by
  have e : Num.zig (-1) = 1 := by rfl
  rw [e, Num.enc_lo (by omega)]
  rfl
theorem lit_258 : four 258 = [0, 0, 1, 2] := by decide

set_option maxRecDepth 100000 in
set_option maxHeartbeats 1000000 in
theorem begun_any (w : World) : Calls Try.prog 9 #[] w fun e w' => e = .returned (.bool true) ∧ Below w.heap.size w w' := by
  go_enter Try.func9, Try.ntmps9
  go_wp2_with fail
  refine (get_any (Rd.lit w [128, 1] 2 rfl (by unfold maxLen; omega))).mono ?_
  rintro e w1 ⟨rfl, rfl⟩
  have e1 : Num.got [128, 1] 0 0 = ⟨64, 2, 0⟩ := by rfl
  rw [e1]
  clear e1
  have HB0 := Lib.hid (Below.alloc (Below.refl w.heap.size w) (Nat.le_refl _) (.cells (List.map cellOf [128, 1]).toArray 5))
  go_wp2_with fail
  refine (get_any (Rd.nil _ none 0 (by unfold maxLen; omega))).mono ?_
  rintro e w1 ⟨rfl, rfl⟩
  have e1 : Num.got [] 0 0 = ⟨0, 0, 2⟩ := by rfl
  rw [e1]
  clear e1
  go_wp2_with fail
  refine (ptext_any ⟨#[97, 98]⟩ (Rd.nil _ none 0 (by unfold maxLen; omega)) (by omega) (by decide)).mono ?_
  rintro e w1 ⟨v1, rfl, HO, HB⟩
  rw [lit_ab] at HO
  have HO1 := Lib.hid HO
  have HB1 : Hid (Below w.heap.size w w1) := HB0.out.trans (HB.mono (by simp))
  have hs1 : (w.alloc (.cells (List.map cellOf [128, 1]).toArray 5)).heap.size ≤ w1.heap.size := HB.size
  have HS1 := Lib.hid hs1
  clear HO HB hs1 HB0
  go_wp2_with (first | (at_builtin; refine push_law rfl _ _ rfl rfl rfl 9 HO1.out rfl (by decide) HS1.out (Below.refl _ _) ?_; intro v2 w2 HO2 HB2))
  obtain ⟨g2, c2, rfl, _, _, hr2⟩ := HO2.out.slice 4 rfl (by omega)
  have HB3 : Hid (Below w.heap.size w w2) := HB1.out.trans (HB2.out.mono (by simp))
  have HR2 := Lib.hid hr2
  clear HO2 HB2 HO1 HB1 HS1 hr2
  refine (gtext_any HR2.out).mono ?_
  rintro e w3 ⟨rfl, rfl⟩
  have e1 : Num.text ([4, 97, 98] ++ [9]) = ⟨[97, 98], 3, 0⟩ := by rfl
  rw [e1]
  clear e1
  go_wp2_with fail
  refine (put_any (-1) (by omega) (by omega) (Rd.nil _ none 0 (by unfold maxLen; omega)) (by omega)).mono ?_
  rintro e w3 ⟨v3, rfl, HO, HB⟩
  rw [lit_one] at HO
  obtain ⟨g3, c3, rfl, _, _, hr3⟩ := HO.slice 1 rfl (by omega)
  have HB4 : Hid (Below w.heap.size w w3) := HB3.out.trans (HB.mono HB3.out.size)
  have hcv := conv_bytes hr3
  clear HO HB hr3 HB3 HR2
  go_wp2_with fail
  refine (four_any 258 _ (by omega)).mono ?_
  rintro e w4 ⟨v4, rfl, HO, HB⟩
  rw [lit_258] at HO
  obtain ⟨g4, c4, rfl, _, _, hr4⟩ := HO.slice 4 rfl (by omega)
  have HB5 : Hid (Below w.heap.size w w4) := HB4.out.trans (HB.mono HB4.out.size)
  have hcv4 := conv_bytes hr4
  clear HO HB hr4 HB4 hcv
  go_wp2_with fail
  go_ret
  exact ⟨rfl, HB5.out⟩
end Go.Proofs.Ytgjpppgcocmlhaa
