import Derived.Test.YtijncclcdkgaoaaDoorSRec
namespace Go.Proofs.YtijncclcdkgaoaaDoor
set_option linter.unusedVariables false
set_option linter.unusedSimpArgs false
set_option maxRecDepth 100000
open Go.RowKit
set_option maxRecDepth 100000 in
set_option maxHeartbeats 2000000 in
theorem rmr_any (r : Rc.R) (w : World) : Calls Tryd.prog 23 #[recV r] w fun e w' => e = .returned (.bool (Rc.may r)) ∧ Below w.heap.size w w' := by
  obtain ⟨v, g, l⟩ := r
  have hsz : (⟨l.toArray⟩ : ByteArray).size = l.length := by show l.toArray.size = _; simp
  have hem : ((⟨l.toArray⟩ : ByteArray) = ⟨#[]⟩) = (l = []) := by simp
  obtain ⟨res, hres⟩ : ∃ b, b = Rc.may ⟨v, g, l⟩ := ⟨_, rfl⟩
  rw [← hres]
  have HR := Lib.hid hres
  have X0 := Lib.hid (alloc_below w (.cells (recL ⟨v, g, l⟩).toArray 42))
  have B0 := Lib.hid (Blk.new w 42 (recL ⟨v, g, l⟩))
  clear hres
  unfold recV
  go_enter Tryd.func23, Tryd.ntmps23
  go_upto_region 1 with (fail)
  generalize w.alloc (.cells (recL ⟨v, g, l⟩).toArray 42) = w1 at *
  have c0 : w1.cell? ⟨w.heap.size, 0, none⟩ = some (.int .i64 v) := B0.out.cell 0
  have c1 : w1.cell? ⟨w.heap.size, 1, none⟩ = some (.bool g) := B0.out.cell 1
  have c2 : w1.cell? ⟨w.heap.size, 2, none⟩ = some (.string ⟨l.toArray⟩) := B0.out.cell 2
  by_cases h1 : v < 1
  · obtain rfl : res = false := by rw [HR.out]; simp [Rc.may]; omega
    have d1 : decide (1 ≤ v) = false := by simp; omega
    go_wp2_with fail
    go_ret
    exact ⟨rfl, X0.out⟩
  · have d1 : decide (1 ≤ v) = true := by simp; omega
    by_cases h2 : 1099511627776 < v
    · obtain rfl : res = false := by rw [HR.out]; simp [Rc.may]; omega
      have d2 : decide (v ≤ 1099511627776) = false := by simp; omega
      go_wp2_with fail
      go_ret
      exact ⟨rfl, X0.out⟩
    · have d2 : decide (v ≤ 1099511627776) = true := by simp; omega
      by_cases h3 : 1000 < l.length
      · obtain rfl : res = false := by rw [HR.out]; simp [Rc.may]; omega
        have d3 : decide ((l.length : Int) ≤ 1000) = false := by simp; omega
        go_wp2_with fail
        go_ret
        exact ⟨rfl, X0.out⟩
      · have d3 : decide ((l.length : Int) ≤ 1000) = true := by simp; omega
        cases g with
        | false =>
          obtain rfl : res = true := by rw [HR.out]; simp [Rc.may]; omega
          go_wp2_with fail
          go_ret
          exact ⟨rfl, X0.out⟩
        | true =>
          by_cases h5 : l = []
          · obtain rfl : res = true := by rw [HR.out]; simp [Rc.may, h5]; omega
            subst h5
            go_wp2_with fail
            go_ret
            exact ⟨rfl, X0.out⟩
          · obtain rfl : res = false := by rw [HR.out]; simp [Rc.may, h5]
            have h6 : l.isEmpty = false := by simpa using h5
            go_wp2_with fail
            go_ret
            exact ⟨rfl, X0.out⟩
set_option maxRecDepth 100000 in
theorem cut_eq {l : List UInt8} {w : World} (n : Nat) (hm : l.length ≤ 9223372036854775807) (hn : n ≤ 2000) :
    Calls Tryd.prog 22 #[.string ⟨l.toArray⟩, .int .i64 n] w fun e w' => e = .returned (.string ⟨(l.take n).toArray⟩) ∧ w = w' := by
  have hsz : (⟨l.toArray⟩ : ByteArray).size = l.length := by show l.toArray.size = _; simp
  have hex : (⟨l.toArray⟩ : ByteArray).extract 0 n = ⟨(l.take n).toArray⟩ := by
    apply ByteArray.ext
    simp [ByteArray.data_extract]
  by_cases h : n < l.length
  · have h1 : (n : Int) < (l.length : Int) := by omega
    go_enter Tryd.func22, Tryd.ntmps22
    go_wp2
    go_ret
    exact ⟨rfl, rfl⟩
  · have h1 : ¬ (n : Int) < (l.length : Int) := by omega
    rw [List.take_of_length_le (by omega)]
    go_enter Tryd.func22, Tryd.ntmps22
    go_wp2
    go_ret
    exact ⟨rfl, rfl⟩
end Go.Proofs.YtijncclcdkgaoaaDoor
