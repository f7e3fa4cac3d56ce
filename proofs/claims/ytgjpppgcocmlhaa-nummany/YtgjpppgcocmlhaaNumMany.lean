/-
  PROVED: for all lists l of int64 the law NumMany answers true (numbers one behind the other are told one by one). CONDITIONS: none beyond the row's own.
-/
import Derived.Test.YtgjpppgcocmlhaaRows
import Derived.WalkKit
import Derived.ProofKit
import Derived.OpenShut
import Derived.ShutString
import Derived.Test.YtgjpppgcocmlhaaBegun
import Derived.Test.YtgjpppgcocmlhaaCame
import Derived.ChangeOld
import Derived.Below
namespace Go.Proofs.Ytgjpppgcocmlhaa.numMany
open Go.ChangeShapes Go.WideShapes Go.ChangeAt Go.RowKit
open Go.ChangeMaps (open_string shut_string)
set_option linter.unusedVariables false

theorem own : ownKnob Try.prog.godebug = none := by kernel_rfl
theorem laidOut : laidOutB Try.prog = true := by kernel_rfl

/-- What is known of a slice of integers that came in. -/
def IsRow (k : IntKind) (w : World) (a : Option Addr) (len cap : Nat) (zs : List Int) : Prop :=
  (a = none ∧ len = 0 ∧ cap = 0 ∧ zs = []) ∨
  ∃ x, a = some x ∧ len ≤ cap ∧ cap ≤ maxLen ∧ zs.length = cap ∧ (∀ i, i < zs.length → w.cell? (x.add i) = some (.int k (zs.getD i 0))) ∧ ∀ n ∈ zs, (Lit.int k n).wf = true

theorem ret_bool {b : Bool} (h : b = true) : Ending.returned (.bool b) = .returned (.bool true) := by rw [h]

/-- The bytes of numbers, one behind the other. -/
def encs (l : List Int) : List UInt8 := (l.map fun n => Num.enc (Num.zig n)).flatten

theorem encs_take {l : List Int} {k : Nat} (h : k < l.length) : encs (l.take (k + 1)) = encs (l.take k) ++ Num.enc (Num.zig (l.getD k 0)) := by
  unfold encs
  rw [List.take_succ_eq_append_getElem h, List.map_append, List.flatten_append, List.getD_eq_getElem?_getD, List.getElem?_eq_getElem h]
  simp only [List.map_cons, List.map_nil, List.flatten_cons, List.flatten_nil, List.append_nil, Option.getD_some]

theorem encs_drop {l : List Int} {k : Nat} (h : k < l.length) : encs (l.drop k) = Num.enc (Num.zig (l.getD k 0)) ++ encs (l.drop (k + 1)) := by
  unfold encs
  rw [List.drop_eq_getElem_cons h, List.getD_eq_getElem?_getD, List.getElem?_eq_getElem h]
  simp only [List.map_cons, List.flatten_cons, Option.getD_some]

def Fits (l : List Int) : Prop := ∀ n ∈ l, -9223372036854775808 ≤ n ∧ n ≤ 9223372036854775807

theorem Fits.at_ {l : List Int} (h : Fits l) (k : Nat) : -9223372036854775808 ≤ l.getD k 0 ∧ l.getD k 0 ≤ 9223372036854775807 := by
  rw [List.getD_eq_getElem?_getD]
  rcases Nat.lt_or_ge k l.length with hk | hk
  · rw [List.getElem?_eq_getElem hk]
    exact h _ (List.getElem_mem hk)
  · rw [List.getElem?_eq_none hk]
    simp

theorem encs_len : ∀ (l : List Int), Fits l → (encs l).length ≤ 10 * l.length := by
  intro l
  induction l with
  | nil => intro _; simp [encs]
  | cons a l ih =>
    intro h
    have h1 := ih fun n hn => h n (List.mem_cons_of_mem _ hn)
    have ha := h a (by simp)
    have h2 := Num.enc_len10 (Num.zig_lt a ha.1 ha.2)
    have e : encs (a :: l) = Num.enc (Num.zig a) ++ encs l := rfl
    rw [e, List.length_append, List.length_cons]
    omega

theorem Fits.take {l : List Int} (h : Fits l) (k : Nat) : Fits (l.take k) := fun n hn => h n (List.mem_of_mem_take hn)
theorem Fits.drop {l : List Int} (h : Fits l) (k : Nat) : Fits (l.drop k) := fun n hn => h n (List.mem_of_mem_drop hn)

theorem got_drop {l : List Int} {k : Nat} (hf : Fits l) (h : k < l.length) : Num.got (encs (l.drop k)) 0 0 = ⟨l.getD k 0, (Num.enc (Num.zig (l.getD k 0))).length, 0⟩ := by
  have hb := hf.at_ k
  rw [encs_drop h, Num.got_enc _ _ 0 0 (by simpa using Num.zig_lt _ hb.1 hb.2) (by omega)]
  simp [Num.zag_zig]

/-- The numbers of a slice that came in. -/
structure RdI (w : World) (A : Option Addr) (n : Nat) (l : List Int) : Prop where
  len : l.length = n
  fits : Fits l
  at_ : 0 < n → ∃ b off, A = some ⟨b, off, none⟩ ∧ b < w.heap.size ∧ ∀ j, j < n → w.cell? ⟨b, off + j, none⟩ = some (.int .i64 (l.getD j 0))

theorem rdi_of {w : World} {a : Option Addr} {len cap : Nat} {zs : List Int} (h : IsRow .i64 w a len cap zs) (n : Nat) (hn : n ≤ len) : RdI w a n (zs.take n) := by
  rcases h with ⟨rfl, rfl, rfl, rfl⟩ | ⟨x, rfl, hlc, hcm, hz, hcell, hwf⟩
  · obtain rfl : n = 0 := by omega
    exact ⟨by simp, fun n hn => by simp at hn, fun h => absurd h (by omega)⟩
  · refine ⟨by simp; omega, fun n hn => bounds_i64 (hwf n (List.mem_of_mem_take hn)), fun h0 => ?_⟩
    obtain ⟨b, off, rfl, hc⟩ := ints_at hcell (by omega)
    refine ⟨b, off, rfl, World.block_lt_of_cell? w ⟨b, off, none⟩ (by simpa using hc 0 (by omega)), fun j hj => ?_⟩
    rw [hc j (by omega)]
    simp [List.getD_eq_getElem?_getD, List.getElem?_take, if_pos hj]

theorem info2 : (Try.prog.info? 2).map (fun i => (i.zero, i.size, i.bytes)) = some (some (.int .i64 0), 1, 8) := by kernel_rfl

theorem slice41 (A : Option Addr) (n c : Nat) (h2 : 40 ≤ c) (W : World) :
    (Instr.slice 41 (.slice A n c) none (some (.int .i64 40)) none).run Try.prog W = .ok (.slice (cutA A c 0) 40 c) W := by
  obtain ⟨i0, hi, hz0, hz1, hz2⟩ := info_parts info2
  have hel : Try.prog.elem 41 = 2 := by kernel_rfl
  have := run_slice_h (P := Try.prog) W 41 A n c (by rw [hel]; exact Try.underlying41) .i64 40 (by omega) (by omega)
  rw [this, hel]
  simp [sizeOf, typeInfo, hi, hz1, sliced, cutA]

theorem cutA_zero (A : Option Addr) (c : Nat) : cutA A c 0 = A := by
  unfold cutA
  split
  · rfl
  · cases A <;> simp [Addr.add]

set_option maxRecDepth 100000 in
set_option maxHeartbeats 4000000 in
theorem walk (a0 : Option Addr) (len0 cap0 : Nat) (z0 : List Int) (w : World) (w0 : IsRow .i64 w a0 len0 cap0 z0) :
    Calls Try.prog 6 #[.slice a0 len0 cap0] w fun e w' => e = .returned (.bool true) ∧ Below w.heap.size w w' := by
  have hlc : len0 ≤ cap0 ∧ cap0 ≤ 9223372036854775807 := by
    rcases w0 with ⟨_, rfl, rfl, _⟩ | ⟨x, _, h1, h2, _⟩
    · omega
    · unfold maxLen at h2; omega
  obtain ⟨hlc, hcm⟩ := hlc
  have hsl : 40 < len0 → ∀ W, (Instr.slice 41 (.slice a0 len0 cap0) none (some (.int .i64 40)) none).run Try.prog W = .ok (.slice a0 40 cap0) W := fun h W => by
    rw [slice41 _ _ _ (by omega), cutA_zero]
  have HI := Lib.hid (fun n hn => rdi_of w0 n hn)
  clear w0
  by_cases hl : 40 < len0
  all_goals
    first
      | have hsl2 := hsl hl
        have hd : decide ((40 : Int) < (len0 : Int)) = true := by simp; omega
        obtain ⟨n, hn⟩ : ∃ n, n = 40 := ⟨40, rfl⟩
        have hn40 : n ≤ 40 := by omega
        have hri := Lib.hid (HI.out n (by omega))
      | have hd : decide ((40 : Int) < (len0 : Int)) = false := by simp; omega
        obtain ⟨n, hn⟩ : ∃ n, n = len0 := ⟨_, rfl⟩
        have hn40 : n ≤ 40 := by omega
        have hri := Lib.hid (HI.out n (by omega))
    have HN := Lib.hid hn
    clear hn hsl HI
    go_enter Try.func6, Try.ntmps6
    go_wp2_with (go_at_call 9; refine (begun_any _).mono ?_; rintro e w1 ⟨rfl, HB⟩; have HB1 := Lib.hid HB; clear HB)
    generalize z0.take n = Z at hri
    first
      | rw [show Value.slice a0 40 cap0 = Value.slice a0 n cap0 from by rw [HN.out]]
      | rw [show Value.slice a0 len0 cap0 = Value.slice a0 n cap0 from by rw [HN.out]]
    clear hd hl HN
    go_loopw [4, 5] (fun s i wr => ∃ (k m c : Nat) (A : Option Addr), k ≤ n ∧ i = .int .i64 k ∧ s = .slice A m c ∧ Hid (Rd wr A m c (encs (Z.take k))) ∧ Hid (Below w.heap.size w wr)) (fun _ i _ => n - (intOf i).toNat)
    case atStart => exact ⟨0, 0, 0, none, by omega, rfl, rfl, by unfold Hid; exact Rd.nil _ none 0 (by unfold maxLen; omega), HB1⟩
    case round =>
      clear HB1
      obtain ⟨k, m, c, A, hk, rfl, rfl, HR, HB⟩ := hrel
      by_cases hkn : k < n
      · obtain ⟨b, off, rfl, hlt, hcs⟩ := hri.out.at_ (by omega)
        have hcell := (HB.out.cell (p := ⟨b, off + k, none⟩) hlt).trans (hcs k hkn)
        have hb := hri.out.fits.at_ k
        have hkl : k < Z.length := by rw [hri.out.len]; exact hkn
        have hm : m ≤ 400 := by
          have h1 := encs_len _ (hri.out.fits.take k)
          have h2 := HR.out.len
          have h3 : (Z.take k).length ≤ k := List.length_take_le _ _
          omega
        have HE := Lib.hid (encs_take hkl)
        have HP := Lib.hid (Num.enc_pos (Num.zig (Z.getD k 0)))
        generalize Z.getD k 0 = x at hcell hb HE HP
        clear hcs
        obtain ⟨hb1, hb2⟩ := hb
        go_wp2_with fail
        refine (put_any x hb1 hb2 HR.out (by omega)).mono ?_
        rintro e w2 ⟨v, rfl, HO, HBn⟩
        rw [← HE.out] at HO
        obtain ⟨g, c', rfl, _, _, hr⟩ := HO.slice _ rfl (by rw [HE.out, List.length_append]; have := HP.out; omega)
        have HR2 := Lib.hid hr
        have HB2 := Lib.hid (HB.out.trans (HBn.mono HB.out.size))
        clear HO HBn hr HR HB HE hcell
        go_wp2_with fail
        go_roundw
        case rel => exact ⟨k + 1, _, _, _, by omega, by go_num, rfl, HR2, HB2⟩
        case measure => simp [intOf]; omega
      · have hkn2 : k = n := by omega
        have HR2 : Hid (Rd wr A m c (encs (Z.drop 0))) := by
          have := HR.out
          rw [List.take_of_length_le (by rw [hri.out.len]; omega)] at this
          exact this
        clear HR hkn2
        go_wp2_with fail
        go_loop [4, 6] (fun s i => ∃ (k m c : Nat) (A : Option Addr), k ≤ n ∧ i = .int .i64 k ∧ s = .slice A m c ∧ Hid (Rd wr A m c (encs (Z.drop k)))) (fun _ i => n - (intOf i).toNat)
        case atStart => exact ⟨0, _, _, _, by omega, rfl, rfl, HR2⟩
        case round =>
          clear HR2 hk hkn
          obtain ⟨q, m, c, A, hq, rfl, rfl, HR⟩ := hrel
          by_cases hqn : q < n
          · obtain ⟨b, off, rfl, hlt, hcs⟩ := hri.out.at_ (by omega)
            have hcell := (HB.out.cell (p := ⟨b, off + q, none⟩) hlt).trans (hcs q hqn)
            have hb := hri.out.fits.at_ q
            have hql : q < Z.length := by rw [hri.out.len]; exact hqn
            have HG := Lib.hid (got_drop hri.out.fits hql)
            have HD := Lib.hid (encs_drop hql)
            have p1 := Num.enc_pos (Num.zig (Z.getD q 0))
            have p2 := Num.enc_len10 (Num.zig_lt _ hb.1 hb.2)
            generalize Z.getD q 0 = x at hcell HG HD p1 p2
            generalize Num.enc (Num.zig x) = y at HG HD p1 p2
            have hym : y.length ≤ m := by
              rw [← HR.out.len, HD.out, List.length_append]
              omega
            have hcap := HR.out.cap
            have hsl := slice_l A m c y.length hym wr
            have hrc := HR.out.cut (k := y.length) (e := m) hym (Nat.le_refl _)
            have HR3 : Hid (Rd wr (cutA A c y.length) (m - y.length) (c - y.length) (encs (Z.drop (q + 1)))) := by
              have e : ((encs (Z.drop q)).drop y.length).take (m - y.length) = encs (Z.drop (q + 1)) := by
                have hl := HR.out.len
                rw [HD.out, List.length_append] at hl
                rw [HD.out, List.drop_left, List.take_of_length_le (by omega)]
              rw [e] at hrc
              exact hrc
            clear hrc hcs hb
            go_wp2_with fail
            refine (get_any HR.out).mono ?_
            rintro e w2 ⟨rfl, rfl⟩
            rw [HG.out]
            clear HR HG
            go_wp2_with fail
            go_round
            case rel => exact ⟨q + 1, _, _, _, by omega, by go_num, rfl, HR3⟩
            case measure => simp [intOf]; omega
          · have hm : m = 0 := by
              have := HR.out.len
              rw [List.drop_of_length_le (by rw [hri.out.len]; omega)] at this
              simpa [encs] using this.symm
            subst hm
            clear HR
            go_wp2_with fail
            go_ret
            exact ⟨rfl, HB.out⟩

set_option maxRecDepth 100000 in
theorem lifted (os : Os) (started : os.Started) (H : Type) (enc : TypeId × Value → H) :
    ReturnsInHanded {} Try.checked os 6 .any (Rows.numManySpec.pre6 enc Try.prog Try.f6 Rows.numManyRow.domain false) (Rows.numManySpec.post enc Try.prog Try.f6 false true false false) := by
  refine returnsInHanded_of_change (C := Try.checked) own started (by kernel_rfl) Try.func6
    (ChangeSpec.witness6 (enc := enc) (C := Try.checked) false ⟨#[], #[.slice none 0 0], []⟩ 8 (by kernel_rfl) (by kernel_rfl) (by kernel_rfl) (by kernel_rfl)) ?_
  intro W base args ds gs before hval0 hW hcnd _
  have hval : ∀ (j : Nat) t v, Try.f6.params[j]? = some t → args[j]? = some v → Value.okWide Try.prog W .any base t v := hval0
  have hW' := hW
  obtain ⟨p, q, hA0, hV, rfl, hfz, hnd⟩ := hW
  have hA : DataW.TrodAll enc Try.prog W 0 (fun _ => true) true Try.f6.params.toList args.toList ds p := hA0
  rw [Try.params6] at hA hval
  obtain ⟨v0, vs0, d0, ds0, p0, q0, hargs, rfl, rfl, h0, r0⟩ := trodAll_cons hA
  obtain ⟨rfl, rfl, rfl⟩ := trodAll_nil r0
  obtain rfl : args = #[v0] := by cases args; simp_all
  obtain ⟨rfl, rfl⟩ := trodVars_none hV
  obtain ⟨a0, len0, cap0, rfl⟩ := okWide_slice Try.underlying41 (hval 0 41 v0 rfl rfl)
  have k0 := h0
  have lt0 : ∀ x ∈ p0, x.block < W.heap.size := by obtain ⟨m, hm⟩ := k0; exact DataW.trod_lt m _ _ _ hm
  obtain ⟨z0, w0⟩ : ∃ zs, IsRow .i64 W a0 len0 cap0 zs := by
    obtain ⟨fuel, hf⟩ := h0
    rcases open_ints Try.underlying41 Try.underlying2 (by kernel_rfl) hf with ⟨hcs, _⟩ | ⟨x, l, c, zs, hcs, _, hl, hm, hz, _, hcell, hwz⟩
    · simp [Value.cells] at hcs
      obtain ⟨rfl, rfl, rfl⟩ := hcs
      exact ⟨[], .inl ⟨rfl, rfl, rfl, rfl⟩⟩
    · simp [Value.cells] at hcs
      obtain ⟨rfl, rfl, rfl⟩ := hcs
      exact ⟨zs, .inr ⟨_, rfl, hl, hm, by simpa using hz, hcell, hwz⟩⟩
  clear hA0 hval0
  refine (walk a0 len0 cap0 z0 W w0).mono fun e W' ⟨he, bel⟩ => ?_
  subst he
  exact ⟨_, rfl, _, _, _, [], _, [], hW', trodAll_mk1 (shut_bool Try.underlying4 _), (trodAll_cons_mk (Below.trod laidOut (by kernel_rfl) (of_decide_eq_true (by kernel_rfl)) k0 bel lt0) trodAll_mk0), rfl, bel.frame _, fun h => by cases h⟩

theorem over : Rows.numManyRow.holds Try.pinned (OpenSpec.ofChange Rows.numManySpec) :=
  OpenClaim.holds_of_wide 6 Try.f6 rfl rfl rfl rfl rfl rfl rfl ⟨rfl, rfl, rfl, rfl, rfl⟩ rfl rfl rfl rfl rfl (by kernel_rfl) Try.func6 (by kernel_rfl)
    (of_decide_eq_true (by kernel_rfl)) (by unfold Func.isWrapper; first | (rw [if_pos (by decide +kernel)]; kernel_rfl) | (rw [if_neg (by decide +kernel)]; exact ⟨rfl, rfl⟩))
    (fun os started H enc _ => lifted os started H enc)

end Go.Proofs.Ytgjpppgcocmlhaa.numMany
namespace Go.Proofs.Ytgjpppgcocmlhaa
theorem numMany_holds : Rows.NumManySaid := numMany.over
#print axioms numMany_holds
end Go.Proofs.Ytgjpppgcocmlhaa
