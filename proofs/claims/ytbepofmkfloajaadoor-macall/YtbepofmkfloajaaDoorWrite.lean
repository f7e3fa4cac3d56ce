/- The contract of Write. -/
import Derived.Test.YtbepofmkfloajaaDoorCuts
import Derived.Deep.MidRow
namespace Go.Proofs.YtbepofmkfloajaaDoor
set_option linter.unusedVariables false
set_option linter.unusedSimpArgs false
open Go.RowKit

/-- Steps of a region that draws its order. -/
theorem step_load {P : Program} {ops : Array Oper} {op : Oper} {a : Act} {w : World} {K : Act → World → Prop} {Q : Exit → Act → World → Prop} {E : Prop} (hgd : op.guard = none) (ty : TypeId) (x : Operand) (ho : op.op = .load ty x)
    (b o : Nat) (hx : a.eval x = .pointer (some ⟨b, o, none⟩)) (cs : List Value) (d : TypeDesc) (hc : w.rangeAt b o cs)
    (hu : P.underlying ty = some d) (hd : d.isRow = true) (hi : (P.info? ty).map (·.size) = some cs.length)
    (h : K (a.put op.dst (.agg cs.toArray)) w) : if Region.wanted op (yielded ops a.tmps) = true then op.wp P a w K Q else E := by
  rw [if_pos (by simp [Region.wanted, hgd])]
  exact wp_load_mid ty x ho b o hx cs d hc hu hd hi h
theorem step_store {P : Program} {ops : Array Oper} {op : Oper} {a : Act} {w : World} {K : Act → World → Prop} {Q : Exit → Act → World → Prop} {E : Prop} (hgd : op.guard = none) (ty : TypeId) (x y : Operand) (ho : op.op = .store ty x y)
    (g off : Nat) (hx : a.eval x = .pointer (some ⟨g, off, none⟩)) (vs : List Value) (hy : a.eval y = .agg vs.toArray) (t : TypeId) (cs : List Value) (hb : Blk w g t cs) (hi : (P.info? ty).map (·.size) = some vs.length)
    (hfit : off + vs.length ≤ cs.length) (h1 : ∀ v ∈ vs, v.oneCell' = true)
    (h : K (a.put op.dst undef) (w.setRow g (cs.take off ++ vs ++ cs.drop (off + vs.length)).toArray)) : if Region.wanted op (yielded ops a.tmps) = true then op.wp P a w K Q else E := by
  rw [if_pos (by simp [Region.wanted, hgd])]
  unfold Oper.wp execOp
  simp only [ho, hx, hy, Instr.storeAt, Instr.sureAddr, Sem.run_bind, Sem.run_pure, Result.andThen_ok, run_storeVar_part w ty g off t cs vs hb hi hfit h1]
  exact h

theorem rng_sums {w : World} {g n : Nat} {hs : List Int} {F : List UInt8} {sc : List Value} (hb : Blk w g 54 (stC hs F n)) (h8 : hs.length = 8) (hsc : sc = hs.map wd) : w.rangeAt g 0 sc := by
  intro j v hv
  rw [hsc] at hv
  rw [hb.cell]
  exact stC_sums _ _ _ h8 j v hv

/-- 'copy(s.block[a:], b)'. -/
theorem copy_step {wr : World} {g b off n c a k : Nat} {M l2 bl : List UInt8} (hB : Blk wr g 54 (stC (Sha.absorb M) bl M.length)) (hl64 : bl.length = 64) (hr : Rd wr (some ⟨b, off, none⟩) n c l2) (hk : k = min n (64 - a)) (ha : a < 64) :
    ∃ w2, (Builtin.copy_ #[23, 23] 3 #[.slice (some ⟨g, 8 + a, none⟩) (64 - a) (64 - a), .slice (some ⟨b, off, none⟩) n c]).run Tryd.prog wr = .ok (.int .i64 (k : Int)) w2 ∧ Blk w2 g 54 (stC (Sha.absorb M) (bl.take a ++ l2.take k ++ bl.drop (a + (l2.take k).length)) M.length) ∧ wr.grownBy w2 (some g) := by
  have hln := hr.len
  have hxl : (l2.take k).length = k := by rw [List.length_take]; omega
  have hcopy := run_copy_row (P := Tryd.prog) wr 23 23 3 5 g (8 + a) (64 - a) (64 - a) ⟨b, off, none⟩ n c (stC (Sha.absorb M) bl M.length).toArray 54 ((l2.take k).map cellOf) Tryd.underlying23 size5 hB (by rw [List.length_map, hxl]; exact hk)
    (fun j v hv => by
      rw [add_plain]
      refine hr.cells j v ?_
      rw [List.map_take, List.getElem?_take] at hv
      split at hv
      · exact hv
      · cases hv) (by rw [List.length_map, hxl, List.size_toArray, stC_length _ bl _ (Sha.absorb_length M) hl64]; omega) (cells_u8 _)
  have e := stC_newBytes (Sha.absorb M) bl (l2.take k) M.length a (Sha.absorb_length M) hl64 (by omega)
  simp only [] at hcopy
  rw [e] at hcopy
  refine ⟨_, ?_, hB.row, only_setRow (only_refl wr _) (.inl rfl) _⟩
  rw [hcopy, List.length_map, hxl]
  rfl

set_option maxRecDepth 100000 in
set_option maxHeartbeats 4000000 in
theorem write_any {w : World} {g : Nat} {m l : List UInt8} {A : Option Addr} {n c : Nat} (hg : Gl w) (h2 : 2 ≤ g) (hH : Holds w g m) (hr : Rd w A n c l) (hne : 0 < n → ∀ ad, A = some ad → ad.block ≠ g) (hb : m.length + l.length ≤ 1099511627776) :
    Calls Tryd.prog 18 #[.pointer (some ⟨g, 0, none⟩), .slice A n c] w fun e w' => e = .returned (.tuple #[]) ∧ Ready w' g (m ++ l) ∧ w.grownBy w' (some g) := by
  obtain ⟨hs, bl, hB, hl8, hl64, htk, hab⟩ := hH
  have HG := Lib.hid hg
  have HR := Lib.hid hr
  have HNE := Lib.hid hne
  have cN : w.cell? ⟨g, 72, none⟩ = some (.int .u64 (m.length : Int)) := by rw [hB.cell]; exact stC_len hs bl _ hl8 hl64
  have HB := Lib.hid hB
  have H8 := Lib.hid hl8
  have H64 := Lib.hid hl64
  have HTK := Lib.hid htk
  have HAB := Lib.hid hab
  clear hg hr hne hB hl8 hl64 htk hab
  by_cases h0 : m.length = 0
  · have HM0 : Hid (m = []) := List.eq_nil_of_length_eq_zero h0
    have h0b : ((m.length : Int) == 0) = true := by simp; exact HM0.out
    clear h0
    obtain ⟨hc, hhc⟩ : ∃ hc, hc = Sha.H0.map wd := ⟨_, rfl⟩
    have HI : Hid ((Tryd.prog.info? 50).map (·.size) = some hc.length) := by unfold Hid; rw [hhc]; kernel_rfl
    have HL : Hid (∀ j v, hc[j]? = some v → w.cell? ⟨0, 0 + j, none⟩ = some v) := by unfold Hid; rw [hhc]; exact HG.out.first
    have HF : Hid (0 + hc.length ≤ (stC hs bl m.length).length) := by unfold Hid; rw [stC_length hs bl _ H8.out H64.out, hhc]; decide
    have H1 : Hid (∀ v ∈ hc, v.oneCell' = true) := by unfold Hid; rw [hhc]; exact cells_wd _
    have HRow : Hid ((stC hs bl m.length).take 0 ++ hc ++ (stC hs bl m.length).drop (0 + hc.length) = stC Sha.H0 bl m.length) := by
      unfold Hid; rw [hhc]; exact stC_newSums hs Sha.H0 bl _ H8.out rfl
    clear hhc
    go_enter Tryd.func18, Tryd.ntmps18
    go_wp2_with (first
      | (with_reducible refine load_law rfl 50 (.global 0) rfl 0 0 rfl hc _ Tryd.underlying50 rfl HI.out HL.out ?_)
      | (with_reducible refine store_law rfl 50 (.tmp 16) (.tmp 14) rfl g 0 rfl hc rfl 54 (stC hs bl m.length) HB.out HI.out HF.out H1.out ?_))
    obtain ⟨w1, hw1⟩ : ∃ w1, w1 = w.setRow g (List.take 0 (stC hs bl m.length) ++ hc ++ List.drop (0 + hc.length) (stC hs bl m.length)).toArray := ⟨_, rfl⟩
    have HRY : Hid (Ready w1 g m) := by
      refine ⟨bl, ?_, H64.out, HTK.out⟩
      rw [hw1, HRow.out]
      have e : Sha.H0 = Sha.absorb m := by rw [HM0.out]; rfl
      rw [e]
      exact HB.out.row
    have HON : Hid (w.grownBy w1 (some g)) := by unfold Hid; rw [hw1]; exact only_setRow (only_refl w _) (.inl rfl) _
    have HRx := Lib.hid (HR.out.grown HON.out HNE.out)
    rw [← hw1]
    clear hw1 HI HL HF H1 HRow HB cN HTK HAB h0b HM0 HR
    simp only [Act.put]
    go_loopw [1] (fun v wr => ∃ (A : Option Addr) (n c : Nat) (l1 l2 : List UInt8), v = .slice A n c ∧ Hid (l1 ++ l2 = l) ∧ Hid (Rd wr A n c l2) ∧ Hid (0 < n → ∀ ad, A = some ad → ad.block ≠ g) ∧ Hid (Ready wr g (m ++ l1)) ∧ Hid (w.grownBy wr (some g))) (fun v _ => slen v)
    case atStart => exact ⟨A, n, c, [], l, rfl, rfl, HRx, HNE, by unfold Hid; rw [List.append_nil]; exact HRY, HON⟩
    case round =>
      clear HRY HON HRx HNE
      obtain ⟨A, n, c, l1, l2, rfl, HL, HR, HNE, HRY, HON⟩ := hrel
      by_cases hn : 0 < n
      · obtain ⟨bl, hB, hl64, htk⟩ := HRY.out
        have hlen : l1.length + l2.length = l.length := by rw [← HL.out, List.length_append]
        have hcap := HR.out.cap
        have hmax := HR.out.max
        have hln := HR.out.len
        unfold maxLen at hmax
        obtain ⟨b, off, rfl, hblt, hcell⟩ := HR.out.at_ hn
        obtain ⟨M, hM⟩ : ∃ M, M = m ++ l1 := ⟨_, rfl⟩
        rw [← hM] at hB htk
        have hMl : M.length = m.length + l1.length := by rw [hM, List.length_append]
        obtain ⟨N, hN⟩ : ∃ N, N = M.length := ⟨_, rfl⟩
        obtain ⟨a, ha⟩ : ∃ a, a = M.length % 64 := ⟨_, rfl⟩
        have ha64 : a < 64 := by omega
        have hNb : N ≤ 1099511627776 := by omega
        have hea : (N : Int) % 64 = (a : Int) := by omega
        obtain ⟨k, hk⟩ : ∃ k, k = min n (64 - a) := ⟨_, rfl⟩
        have hk1 : k ≤ n := by omega
        have hk2 : a + k ≤ 64 := by omega
        have hk0 : 0 < k := by omega
        obtain ⟨w2, hcopy, hB2, hO2⟩ := copy_step hB hl64 HR.out hk ha64
        have cN : wr.cell? ⟨g, 72, none⟩ = some (.int .u64 (N : Int)) := by rw [hB.cell, hN]; exact stC_len _ bl _ (Sha.absorb_length M) hl64
        obtain ⟨x, hx⟩ : ∃ x, x = l2.take k := ⟨_, rfl⟩
        have hxl : x.length = k := by rw [hx, List.length_take]; omega
        rw [← hx] at hB2
        have hbl2 : (bl.take a ++ x ++ bl.drop (a + x.length)).length = 64 := by simp; omega
        have cN2 : w2.cell? ⟨g, 72, none⟩ = some (.int .u64 (N : Int)) := by rw [hB2.cell, hN]; exact stC_len _ _ _ (Sha.absorb_length M) hbl2
        have fN2 : w2.frozen? ⟨g, 72, none⟩ = false := hB2.frozen 72
        have hsl := slice_l (some ⟨b, off, none⟩) n c k hk1 w2
        have hat := sliceAt_l 51 64 Tryd.underlying51 g 8 a ha64 wr
        obtain ⟨w3, hw3⟩ : ∃ w3, w3 = w2.setCell ⟨g, 72, none⟩ (.int .u64 ((N : Int) + (k : Int))) := ⟨_, rfl⟩
        have HB3 : Hid (Blk w3 g 54 (stC (Sha.absorb M) (bl.take (M.length % 64) ++ x ++ bl.drop (M.length % 64 + x.length)) (M ++ x).length)) := by
          have := hB2.set_ 72 (.int .u64 (((M ++ x).length : Nat) : Int))
          rw [stC_newLen _ _ _ _ (Sha.absorb_length M) hbl2] at this
          unfold Hid
          rw [← ha, hw3]
          rw [List.length_append, hxl, ← hN] at this ⊢
          exact this
        have HO3 : Hid (wr.grownBy w3 (some g)) := by unfold Hid; rw [hw3]; exact only_setCell hO2 (.inl rfl) _
        have HR3 : Hid (Rd w3 (cutA (some ⟨b, off, none⟩) c k) (n - k) (c - k) (l2.drop k)) := by
          have h1 := (HR.out.grown HO3.out HNE.out).cut (k := k) (e := n) hk1 (Nat.le_refl _)
          rw [List.take_of_length_le (by rw [List.length_drop]; omega)] at h1
          exact h1
        have HN3 : Hid (0 < n - k → ∀ ad, cutA (some ⟨b, off, none⟩) c k = some ad → ad.block ≠ g) := fun _ ad had => by
          obtain ⟨a0, e0, e1⟩ := cut_block had
          rw [← e1]
          exact HNE.out hn a0 e0
        have HL3 : Hid (l1 ++ x ++ l2.drop k = l) := by unfold Hid; rw [hx, List.append_assoc, List.take_append_drop, HL.out]
        have HM3 : Hid (M ++ x = m ++ (l1 ++ x)) := by unfold Hid; rw [hM, List.append_assoc]
        have HON3 : Hid (w.grownBy w3 (some g)) := only_trans HON.out HO3.out
        have HTK := Lib.hid htk
        have H64' := Lib.hid hl64
        have HA := Lib.hid ha
        have HX := Lib.hid hxl
        have HW3 := Lib.hid hw3
        clear hw3 ha hxl hx hl64 htk hB2 hB hO2 hbl2 hM hMl hN hk hcell hln hlen HR HNE HL HRY hblt
        by_cases hf : a + k = 64
        · have hfb : ((a : Int) + (k : Int) == 64) = true := by simp; omega
          have HBF : Hid (Blk w3 g 54 (stC (Sha.absorb M) (M.drop (64 * (M.length / 64)) ++ x) (M ++ x).length)) := by
            have := HB3.out
            rw [full_block H64'.out HTK.out (by rw [← HA.out, HX.out]; omega)] at this
            exact this
          have HXM : Hid (M.length % 64 + x.length = 64) := by unfold Hid; rw [← HA.out, HX.out]; omega
          have HFL : Hid ((M.drop (64 * (M.length / 64)) ++ x).length = 64) := by have := HXM.out; unfold Hid; rw [List.length_append, List.length_drop]; omega
          obtain ⟨F, hF⟩ : ∃ F, F = M.drop (64 * (M.length / 64)) ++ x := ⟨_, rfl⟩
          rw [← hF] at HBF HFL
          have HF := Lib.hid hF
          obtain ⟨sc, hsc⟩ : ∃ sc, sc = (Sha.absorb M).map wd := ⟨_, rfl⟩
          obtain ⟨bc, hbc⟩ : ∃ bc, bc = F.map cellOf := ⟨_, rfl⟩
          have HI50 : Hid ((Tryd.prog.info? 50).map (·.size) = some sc.length) := by unfold Hid; rw [hsc, List.length_map, Sha.absorb_length]; kernel_rfl
          have HI51 : Hid ((Tryd.prog.info? 51).map (·.size) = some bc.length) := by unfold Hid; rw [hbc, List.length_map, HFL.out]; kernel_rfl
          have HS4 : Hid (w3.drew.rangeAt g 0 sc) := by
            intro j v hv
            rw [hsc] at hv
            rw [HBF.out.drew.cell]
            exact stC_sums _ _ _ (Sha.absorb_length M) j v hv
          have HBk : Hid (w3.drew.rangeAt g 8 bc) := by
            intro j v hv
            rw [hbc] at hv
            rw [HBF.out.drew.cell]
            exact stC_block _ _ _ (Sha.absorb_length M) HFL.out j v hv
          have HWo : Hid (∀ W : World, Calls Tryd.prog 31 #[.agg bc.toArray] W fun e w' => e = .returned (.agg ((Sha.sched F).map wd).toArray) ∧ Below W.heap.size W w') := by
            unfold Hid
            intro W
            rw [hbc]
            exact words_any F W HFL.out
          have HMi : Hid (∀ W : World, Gl W → Calls Tryd.prog 30 #[.agg sc.toArray, .agg ((Sha.sched F).map wd).toArray] W fun e w' => e = .returned (.agg ((Sha.comp (Sha.absorb M) F).map wd).toArray) ∧ Below W.heap.size W w') := by
            unfold Hid
            intro W hG
            rw [hsc]
            exact mix_any (Sha.absorb M) (Sha.sched F) W hG (Sha.absorb_length M) (Sha.sched_length F HFL.out)
          obtain ⟨sw, hsw⟩ : ∃ sw, sw = (Sha.sched F).map wd := ⟨_, rfl⟩
          obtain ⟨rc, hrc⟩ : ∃ rc, rc = (Sha.comp (Sha.absorb M) F).map wd := ⟨_, rfl⟩
          rw [← hsw, ← hrc] at HMi
          rw [← hsw] at HWo
          have HSC := Lib.hid hsc
          have HIR : Hid ((Tryd.prog.info? 50).map (·.size) = some rc.length) := by unfold Hid; rw [hrc, List.length_map, Sha.comp_length _ _ (Sha.absorb_length M)]; kernel_rfl
          have HFR : Hid (0 + rc.length ≤ (stC (Sha.absorb M) F (M ++ x).length).length) := by unfold Hid; rw [hrc, List.length_map, Sha.comp_length _ _ (Sha.absorb_length M), stC_length _ _ _ (Sha.absorb_length M) HFL.out]; omega
          have HR1 : Hid (∀ v ∈ rc, v.oneCell' = true) := by unfold Hid; rw [hrc]; exact cells_wd _
          have HRow : Hid ((stC (Sha.absorb M) F (M ++ x).length).take 0 ++ rc ++ (stC (Sha.absorb M) F (M ++ x).length).drop (0 + rc.length) = stC (Sha.comp (Sha.absorb M) F) F (M ++ x).length) := by
            unfold Hid; rw [hrc]; exact stC_newSums _ _ _ _ (Sha.absorb_length M) (Sha.comp_length _ _ (Sha.absorb_length M))
          have HR4 := Lib.hid HR3.out.drew
          have HG4 : Hid (Gl w3.drew) := (HG.out.only (only_drew HON3.out) h2)
          have HB4 := Lib.hid HBF.out.drew
          have HO4 := Lib.hid (only_drew HO3.out)
          clear hF hsc hbc hsw hrc hf
          clear HB3 HTK HO3 HON3 HBF H64'
          go_wp2_with fail
          rw [← HW3.out]
          refine wp_region_any (by kernel_rfl) ?_
          change wpAny _ _ _ _ _ _ _ (World.drew _)
          clear HW3
          generalize w3.drew = w4 at *
          refine wpAny_take (i := 0) (oi := ?oi1a) (v := .pointer (some ⟨g, 0, none⟩)) ?hi1a (by kernel_rfl) (by kernel_rfl) (by kernel_rfl) ?hQ1a ?hy1a ?rest1a
          case hi1a => simp only [List.getElem?_toArray, List.getElem?_cons_succ, List.getElem?_cons_zero]; rfl
          case hQ1a => exact fun _ _ _ h => h
          case hy1a => exact Or.inl ⟨by rfl, by intro w; go_simp⟩
          try simp only [Act.put, List.setIfInBounds_toArray, List.set_cons_zero, List.set_cons_succ]
          refine wpAny_take (i := 1) (oi := ?oi2a) (v := .pointer (some ⟨g, 0, none⟩)) ?hi2a (by kernel_rfl) (by kernel_rfl) (by kernel_rfl) ?hQ2a ?hy2a ?rest2a
          case hi2a => simp only [List.getElem?_toArray, List.getElem?_cons_succ, List.getElem?_cons_zero]; rfl
          case hQ2a => exact fun _ _ _ h => h
          case hy2a => exact Or.inl ⟨by rfl, by intro w; go_simp⟩
          try simp only [Act.put, List.setIfInBounds_toArray, List.set_cons_zero, List.set_cons_succ]
          refine wpAny_take (i := 2) (oi := ?oi3a) (v := .pointer (some ⟨g, 0, none⟩)) ?hi3a (by kernel_rfl) (by kernel_rfl) (by kernel_rfl) ?hQ3a ?hy3a ?rest3a
          case hi3a => simp only [List.getElem?_toArray, List.getElem?_cons_succ, List.getElem?_cons_zero]; rfl
          case hQ3a => exact fun _ _ _ h => h
          case hy3a => exact Or.inl ⟨by rfl, by intro w; go_simp⟩
          try simp only [Act.put, List.setIfInBounds_toArray, List.set_cons_zero, List.set_cons_succ]
          refine wpAny_take (i := 3) (oi := ?oi4a) (v := .pointer (some ⟨g, 0, none⟩)) ?hi4a (by kernel_rfl) (by kernel_rfl) (by kernel_rfl) ?hQ4a ?hy4a ?rest4a
          case hi4a => simp only [List.getElem?_toArray, List.getElem?_cons_succ, List.getElem?_cons_zero]; rfl
          case hQ4a => exact fun _ _ _ h => h
          case hy4a => exact Or.inl ⟨by rfl, by intro w; go_simp⟩
          try simp only [Act.put, List.setIfInBounds_toArray, List.set_cons_zero, List.set_cons_succ]
          refine wpAny_take (i := 5) (oi := ?oi5a) (v := .pointer (some ⟨g, 0, none⟩)) ?hi5a (by kernel_rfl) (by kernel_rfl) (by kernel_rfl) ?hQ5a ?hy5a ?rest5a
          case hi5a => simp only [List.getElem?_toArray, List.getElem?_cons_succ, List.getElem?_cons_zero]; rfl
          case hQ5a => exact fun _ _ _ h => h
          case hy5a => exact Or.inl ⟨by rfl, by intro w; go_simp⟩
          try simp only [Act.put, List.setIfInBounds_toArray, List.set_cons_zero, List.set_cons_succ]
          refine wpAny_take (i := 6) (oi := ?oi6a) (v := .pointer (some ⟨g, 0, none⟩)) ?hi6a (by kernel_rfl) (by kernel_rfl) (by kernel_rfl) ?hQ6a ?hy6a ?rest6a
          case hi6a => simp only [List.getElem?_toArray, List.getElem?_cons_succ, List.getElem?_cons_zero]; rfl
          case hQ6a => exact fun _ _ _ h => h
          case hy6a => exact Or.inl ⟨by rfl, by intro w; go_simp⟩
          try simp only [Act.put, List.setIfInBounds_toArray, List.set_cons_zero, List.set_cons_succ]
          refine wpAny_take (i := 7) (oi := ?oi7a) (v := .pointer (some ⟨g, 8, none⟩)) ?hi7a (by kernel_rfl) (by kernel_rfl) (by kernel_rfl) ?hQ7a ?hy7a ?rest7a
          case hi7a => simp only [List.getElem?_toArray, List.getElem?_cons_succ, List.getElem?_cons_zero]; rfl
          case hQ7a => exact fun _ _ _ h => h
          case hy7a => exact Or.inl ⟨by rfl, by intro w; go_simp⟩
          try simp only [Act.put, List.setIfInBounds_toArray, List.set_cons_zero, List.set_cons_succ]
          refine wpAny_ready (rs := [4, 8]) (by kernel_rfl) (by simp) ?_
          refine AllReady.cons (o := ?o8a) ?ho8a (fun K hK => ?_) ?more8a
          case ho8a => simp only [List.getElem?_toArray, List.getElem?_cons_succ, List.getElem?_cons_zero]; rfl
          · refine step_load rfl 50 (.tmp 52) rfl g 0 rfl sc _ HS4.out Tryd.underlying50 rfl HI50.out (hK _ _ ?_)
            clear hK K
            try simp only [Act.put, List.setIfInBounds_toArray, List.set_cons_zero, List.set_cons_succ]
            refine wpAny_ready (rs := [8]) (by kernel_rfl) (by simp) ?_
            refine AllReady.cons (o := ?o9a) ?ho9a (fun K hK => ?_) AllReady.nil
            case ho9a => simp only [List.getElem?_toArray, List.getElem?_cons_succ, List.getElem?_cons_zero]; rfl
            refine step_load rfl 51 (.tmp 56) rfl g 8 rfl bc _ HBk.out Tryd.underlying51 rfl HI51.out (hK _ _ ?_)
            clear hK K
            try simp only [Act.put, List.setIfInBounds_toArray, List.set_cons_zero, List.set_cons_succ]
            refine wpAny_ready (rs := [9]) (by kernel_rfl) (by simp) ?_
            refine AllReady.cons (o := ?o10a) ?ho10a (fun K hK => ?_) AllReady.nil
            case ho10a => simp only [List.getElem?_toArray, List.getElem?_cons_succ, List.getElem?_cons_zero]; rfl
            go_simp
            refine (HWo.out _).mono ?_
            rintro e w5 ⟨rfl, HX5⟩
            have HB5 := Lib.hid (HB4.out.below HX5 HB4.out.lt)
            have HG5 := Lib.hid (HG4.out.below HX5 HG4.out.size)
            have HS5 := Lib.hid (rng_sums HB5.out (Sha.absorb_length M) HSC.out)
            have O5 := Lib.hid (only_of_below HX5 (some g))
            clear HX5
            refine hK _ _ ?_
            clear hK K
            try simp only [Act.put, List.setIfInBounds_toArray, List.set_cons_zero, List.set_cons_succ]
            refine wpAny_ready (rs := [10]) (by kernel_rfl) (by simp) ?_
            refine AllReady.cons (o := ?o11a) ?ho11a (fun K hK => ?_) AllReady.nil
            case ho11a => simp only [List.getElem?_toArray, List.getElem?_cons_succ, List.getElem?_cons_zero]; rfl
            go_simp
            refine (HMi.out _ HG5.out).mono ?_
            rintro e w6 ⟨rfl, HX6⟩
            have HB6 := Lib.hid (HB5.out.below HX6 HB5.out.lt)
            have O6 := Lib.hid (only_trans O5.out (only_of_below HX6 (some g)))
            clear HX6
            refine hK _ _ ?_
            clear hK K
            try simp only [Act.put, List.setIfInBounds_toArray, List.set_cons_zero, List.set_cons_succ]
            refine wpAny_take (i := 11) (oi := ?oi12a) (v := .pointer (some ⟨g, 0, none⟩)) ?hi12a (by kernel_rfl) (by kernel_rfl) (by kernel_rfl) ?hQ12a ?hy12a ?rest12a
            case hi12a => simp only [List.getElem?_toArray, List.getElem?_cons_succ, List.getElem?_cons_zero]; rfl
            case hQ12a => exact fun _ _ _ h => h
            case hy12a => exact Or.inl ⟨by rfl, by intro w; go_simp⟩
            try simp only [Act.put, List.setIfInBounds_toArray, List.set_cons_zero, List.set_cons_succ]
            refine wpAny_take (i := 12) (oi := ?oi13a) (v := .pointer (some ⟨g, 0, none⟩)) ?hi13a (by kernel_rfl) (by kernel_rfl) (by kernel_rfl) ?hQ13a ?hy13a ?rest13a
            case hi13a => simp only [List.getElem?_toArray, List.getElem?_cons_succ, List.getElem?_cons_zero]; rfl
            case hQ13a => exact fun _ _ _ h => h
            case hy13a => exact Or.inl ⟨by rfl, by intro w; go_simp⟩
            try simp only [Act.put, List.setIfInBounds_toArray, List.set_cons_zero, List.set_cons_succ]
            refine wpAny_ready (rs := [13]) (by kernel_rfl) (by simp) ?_
            refine AllReady.cons (o := ?o14a) ?ho14a (fun K hK => ?_) AllReady.nil
            case ho14a => simp only [List.getElem?_toArray, List.getElem?_cons_succ, List.getElem?_cons_zero]; rfl
            refine step_store rfl 50 (.tmp 61) (.tmp 59) rfl g 0 rfl rc rfl 54 _ HB6.out HIR.out HFR.out HR1.out (hK _ _ ?_)
            clear hK K
            have HB7 := Lib.hid (HB6.out.row (cs' := (stC (Sha.absorb M) F (M ++ x).length).take 0 ++ rc ++ (stC (Sha.absorb M) F (M ++ x).length).drop (0 + rc.length)))
            have O7 := Lib.hid (only_setRow O6.out (.inl rfl) ((stC (Sha.absorb M) F (M ++ x).length).take 0 ++ rc ++ (stC (Sha.absorb M) F (M ++ x).length).drop (0 + rc.length)).toArray)
            generalize w6.setRow g _ = w7 at *
            try simp only [Act.put]
            refine wpAny_done (by kernel_rfl) ?_ _
            have HRY7 : Hid (Ready w7 g (m ++ (l1 ++ x))) := by
              unfold Hid
              rw [← HM3.out]
              refine ready_full ?_ HXM.out
              have := HB7.out
              rw [HRow.out, HF.out] at this
              exact this
            have HR7 := Lib.hid (HR4.out.grown O7.out HN3.out)
            have HON7 := Lib.hid (only_trans HON.out (only_trans HO4.out O7.out))
            clear HB4 HB5 HB6 HB7 O5 O6 O7 HS4 HBk HS5
            go_wp2_with fail
            go_roundw
            case rel => exact ⟨_, _, _, l1 ++ x, l2.drop k, rfl, HL3, HR7, HN3, HRY7, HON7⟩
            case measure => simp [slen]; omega
          case more8a =>
            refine AllReady.cons (o := ?o15a) ?ho15a (fun K hK => ?_) AllReady.nil
            case ho15a => simp only [List.getElem?_toArray, List.getElem?_cons_succ, List.getElem?_cons_zero]; rfl
            refine step_load rfl 51 (.tmp 56) rfl g 8 rfl bc _ HBk.out Tryd.underlying51 rfl HI51.out (hK _ _ ?_)
            clear hK K
            try simp only [Act.put, List.setIfInBounds_toArray, List.set_cons_zero, List.set_cons_succ]
            refine wpAny_ready (rs := [4, 9]) (by kernel_rfl) (by simp) ?_
            refine AllReady.cons (o := ?o16a) ?ho16a (fun K hK => ?_) ?more16a
            case ho16a => simp only [List.getElem?_toArray, List.getElem?_cons_succ, List.getElem?_cons_zero]; rfl
            · refine step_load rfl 50 (.tmp 52) rfl g 0 rfl sc _ HS4.out Tryd.underlying50 rfl HI50.out (hK _ _ ?_)
              clear hK K
              try simp only [Act.put, List.setIfInBounds_toArray, List.set_cons_zero, List.set_cons_succ]
              refine wpAny_ready (rs := [9]) (by kernel_rfl) (by simp) ?_
              refine AllReady.cons (o := ?o17a) ?ho17a (fun K hK => ?_) AllReady.nil
              case ho17a => simp only [List.getElem?_toArray, List.getElem?_cons_succ, List.getElem?_cons_zero]; rfl
              go_simp
              refine (HWo.out _).mono ?_
              rintro e w5 ⟨rfl, HX5⟩
              have HB5 := Lib.hid (HB4.out.below HX5 HB4.out.lt)
              have HG5 := Lib.hid (HG4.out.below HX5 HG4.out.size)
              have HS5 := Lib.hid (rng_sums HB5.out (Sha.absorb_length M) HSC.out)
              have O5 := Lib.hid (only_of_below HX5 (some g))
              clear HX5
              refine hK _ _ ?_
              clear hK K
              try simp only [Act.put, List.setIfInBounds_toArray, List.set_cons_zero, List.set_cons_succ]
              refine wpAny_ready (rs := [10]) (by kernel_rfl) (by simp) ?_
              refine AllReady.cons (o := ?o18a) ?ho18a (fun K hK => ?_) AllReady.nil
              case ho18a => simp only [List.getElem?_toArray, List.getElem?_cons_succ, List.getElem?_cons_zero]; rfl
              go_simp
              refine (HMi.out _ HG5.out).mono ?_
              rintro e w6 ⟨rfl, HX6⟩
              have HB6 := Lib.hid (HB5.out.below HX6 HB5.out.lt)
              have O6 := Lib.hid (only_trans O5.out (only_of_below HX6 (some g)))
              clear HX6
              refine hK _ _ ?_
              clear hK K
              try simp only [Act.put, List.setIfInBounds_toArray, List.set_cons_zero, List.set_cons_succ]
              refine wpAny_take (i := 11) (oi := ?oi19a) (v := .pointer (some ⟨g, 0, none⟩)) ?hi19a (by kernel_rfl) (by kernel_rfl) (by kernel_rfl) ?hQ19a ?hy19a ?rest19a
              case hi19a => simp only [List.getElem?_toArray, List.getElem?_cons_succ, List.getElem?_cons_zero]; rfl
              case hQ19a => exact fun _ _ _ h => h
              case hy19a => exact Or.inl ⟨by rfl, by intro w; go_simp⟩
              try simp only [Act.put, List.setIfInBounds_toArray, List.set_cons_zero, List.set_cons_succ]
              refine wpAny_take (i := 12) (oi := ?oi20a) (v := .pointer (some ⟨g, 0, none⟩)) ?hi20a (by kernel_rfl) (by kernel_rfl) (by kernel_rfl) ?hQ20a ?hy20a ?rest20a
              case hi20a => simp only [List.getElem?_toArray, List.getElem?_cons_succ, List.getElem?_cons_zero]; rfl
              case hQ20a => exact fun _ _ _ h => h
              case hy20a => exact Or.inl ⟨by rfl, by intro w; go_simp⟩
              try simp only [Act.put, List.setIfInBounds_toArray, List.set_cons_zero, List.set_cons_succ]
              refine wpAny_ready (rs := [13]) (by kernel_rfl) (by simp) ?_
              refine AllReady.cons (o := ?o21a) ?ho21a (fun K hK => ?_) AllReady.nil
              case ho21a => simp only [List.getElem?_toArray, List.getElem?_cons_succ, List.getElem?_cons_zero]; rfl
              refine step_store rfl 50 (.tmp 61) (.tmp 59) rfl g 0 rfl rc rfl 54 _ HB6.out HIR.out HFR.out HR1.out (hK _ _ ?_)
              clear hK K
              have HB7 := Lib.hid (HB6.out.row (cs' := (stC (Sha.absorb M) F (M ++ x).length).take 0 ++ rc ++ (stC (Sha.absorb M) F (M ++ x).length).drop (0 + rc.length)))
              have O7 := Lib.hid (only_setRow O6.out (.inl rfl) ((stC (Sha.absorb M) F (M ++ x).length).take 0 ++ rc ++ (stC (Sha.absorb M) F (M ++ x).length).drop (0 + rc.length)).toArray)
              generalize w6.setRow g _ = w7 at *
              try simp only [Act.put]
              refine wpAny_done (by kernel_rfl) ?_ _
              have HRY7 : Hid (Ready w7 g (m ++ (l1 ++ x))) := by
                unfold Hid
                rw [← HM3.out]
                refine ready_full ?_ HXM.out
                have := HB7.out
                rw [HRow.out, HF.out] at this
                exact this
              have HR7 := Lib.hid (HR4.out.grown O7.out HN3.out)
              have HON7 := Lib.hid (only_trans HON.out (only_trans HO4.out O7.out))
              clear HB4 HB5 HB6 HB7 O5 O6 O7 HS4 HBk HS5
              go_wp2_with fail
              go_roundw
              case rel => exact ⟨_, _, _, l1 ++ x, l2.drop k, rfl, HL3, HR7, HN3, HRY7, HON7⟩
              case measure => simp [slen]; omega
            case more16a =>
              refine AllReady.cons (o := ?o22a) ?ho22a (fun K hK => ?_) AllReady.nil
              case ho22a => simp only [List.getElem?_toArray, List.getElem?_cons_succ, List.getElem?_cons_zero]; rfl
              go_simp
              refine (HWo.out _).mono ?_
              rintro e w5 ⟨rfl, HX5⟩
              have HB5 := Lib.hid (HB4.out.below HX5 HB4.out.lt)
              have HG5 := Lib.hid (HG4.out.below HX5 HG4.out.size)
              have HS5 := Lib.hid (rng_sums HB5.out (Sha.absorb_length M) HSC.out)
              have O5 := Lib.hid (only_of_below HX5 (some g))
              clear HX5
              refine hK _ _ ?_
              clear hK K
              try simp only [Act.put, List.setIfInBounds_toArray, List.set_cons_zero, List.set_cons_succ]
              refine wpAny_ready (rs := [4]) (by kernel_rfl) (by simp) ?_
              refine AllReady.cons (o := ?o23a) ?ho23a (fun K hK => ?_) AllReady.nil
              case ho23a => simp only [List.getElem?_toArray, List.getElem?_cons_succ, List.getElem?_cons_zero]; rfl
              refine step_load rfl 50 (.tmp 52) rfl g 0 rfl sc _ HS5.out Tryd.underlying50 rfl HI50.out (hK _ _ ?_)
              clear hK K
              try simp only [Act.put, List.setIfInBounds_toArray, List.set_cons_zero, List.set_cons_succ]
              refine wpAny_ready (rs := [10]) (by kernel_rfl) (by simp) ?_
              refine AllReady.cons (o := ?o24a) ?ho24a (fun K hK => ?_) AllReady.nil
              case ho24a => simp only [List.getElem?_toArray, List.getElem?_cons_succ, List.getElem?_cons_zero]; rfl
              go_simp
              refine (HMi.out _ HG5.out).mono ?_
              rintro e w6 ⟨rfl, HX6⟩
              have HB6 := Lib.hid (HB5.out.below HX6 HB5.out.lt)
              have O6 := Lib.hid (only_trans O5.out (only_of_below HX6 (some g)))
              clear HX6
              refine hK _ _ ?_
              clear hK K
              try simp only [Act.put, List.setIfInBounds_toArray, List.set_cons_zero, List.set_cons_succ]
              refine wpAny_take (i := 11) (oi := ?oi25a) (v := .pointer (some ⟨g, 0, none⟩)) ?hi25a (by kernel_rfl) (by kernel_rfl) (by kernel_rfl) ?hQ25a ?hy25a ?rest25a
              case hi25a => simp only [List.getElem?_toArray, List.getElem?_cons_succ, List.getElem?_cons_zero]; rfl
              case hQ25a => exact fun _ _ _ h => h
              case hy25a => exact Or.inl ⟨by rfl, by intro w; go_simp⟩
              try simp only [Act.put, List.setIfInBounds_toArray, List.set_cons_zero, List.set_cons_succ]
              refine wpAny_take (i := 12) (oi := ?oi26a) (v := .pointer (some ⟨g, 0, none⟩)) ?hi26a (by kernel_rfl) (by kernel_rfl) (by kernel_rfl) ?hQ26a ?hy26a ?rest26a
              case hi26a => simp only [List.getElem?_toArray, List.getElem?_cons_succ, List.getElem?_cons_zero]; rfl
              case hQ26a => exact fun _ _ _ h => h
              case hy26a => exact Or.inl ⟨by rfl, by intro w; go_simp⟩
              try simp only [Act.put, List.setIfInBounds_toArray, List.set_cons_zero, List.set_cons_succ]
              refine wpAny_ready (rs := [13]) (by kernel_rfl) (by simp) ?_
              refine AllReady.cons (o := ?o27a) ?ho27a (fun K hK => ?_) AllReady.nil
              case ho27a => simp only [List.getElem?_toArray, List.getElem?_cons_succ, List.getElem?_cons_zero]; rfl
              refine step_store rfl 50 (.tmp 61) (.tmp 59) rfl g 0 rfl rc rfl 54 _ HB6.out HIR.out HFR.out HR1.out (hK _ _ ?_)
              clear hK K
              have HB7 := Lib.hid (HB6.out.row (cs' := (stC (Sha.absorb M) F (M ++ x).length).take 0 ++ rc ++ (stC (Sha.absorb M) F (M ++ x).length).drop (0 + rc.length)))
              have O7 := Lib.hid (only_setRow O6.out (.inl rfl) ((stC (Sha.absorb M) F (M ++ x).length).take 0 ++ rc ++ (stC (Sha.absorb M) F (M ++ x).length).drop (0 + rc.length)).toArray)
              generalize w6.setRow g _ = w7 at *
              try simp only [Act.put]
              refine wpAny_done (by kernel_rfl) ?_ _
              have HRY7 : Hid (Ready w7 g (m ++ (l1 ++ x))) := by
                unfold Hid
                rw [← HM3.out]
                refine ready_full ?_ HXM.out
                have := HB7.out
                rw [HRow.out, HF.out] at this
                exact this
              have HR7 := Lib.hid (HR4.out.grown O7.out HN3.out)
              have HON7 := Lib.hid (only_trans HON.out (only_trans HO4.out O7.out))
              clear HB4 HB5 HB6 HB7 O5 O6 O7 HS4 HBk HS5
              go_wp2_with fail
              go_roundw
              case rel => exact ⟨_, _, _, l1 ++ x, l2.drop k, rfl, HL3, HR7, HN3, HRY7, HON7⟩
              case measure => simp [slen]; omega
        · have hfb : ((a : Int) + (k : Int) == 64) = false := by simp; omega
          have HRY3 : Hid (Ready w3 g (m ++ (l1 ++ x))) := by
            unfold Hid
            rw [← HM3.out]
            exact ready_less HB3.out H64'.out HTK.out (by rw [← HA.out, HX.out]; omega)
          clear hf
          go_wp2_with fail
          rw [← HW3.out]
          go_roundw
          case rel => exact ⟨_, _, _, l1 ++ x, l2.drop k, rfl, HL3, HR3, HN3, HRY3, HON3⟩
          case measure => simp [slen]; omega
      · have hl2 : l2 = [] := List.eq_nil_of_length_eq_zero (by have := HR.out.len; omega)
        have HRYe : Hid (Ready wr g (m ++ l)) := by
          have := HL.out
          rw [hl2, List.append_nil] at this
          rw [← this]
          exact HRY
        clear hl2
        go_wp2_with fail
        go_end0
        exact ⟨rfl, HRYe.out, HON.out⟩
  · have h0b : ((m.length : Int) == 0) = false := by simp; exact List.ne_nil_of_length_pos (by omega)
    go_enter Tryd.func18, Tryd.ntmps18
    go_wp2_with fail
    have HRY : Hid (Ready w g m) := by
      have := HAB.out (List.ne_nil_of_length_pos (by omega))
      subst this
      exact ⟨bl, HB.out, H64.out, HTK.out⟩
    have HON := Lib.hid (only_refl w (some g))
    have HRx := HR
    clear cN HB HTK HAB h0b h0 HR
    go_loopw [1] (fun v wr => ∃ (A : Option Addr) (n c : Nat) (l1 l2 : List UInt8), v = .slice A n c ∧ Hid (l1 ++ l2 = l) ∧ Hid (Rd wr A n c l2) ∧ Hid (0 < n → ∀ ad, A = some ad → ad.block ≠ g) ∧ Hid (Ready wr g (m ++ l1)) ∧ Hid (w.grownBy wr (some g))) (fun v _ => slen v)
    case atStart => exact ⟨A, n, c, [], l, rfl, rfl, HRx, HNE, by unfold Hid; rw [List.append_nil]; exact HRY, HON⟩
    case round =>
      clear HRY HON HRx HNE
      obtain ⟨A, n, c, l1, l2, rfl, HL, HR, HNE, HRY, HON⟩ := hrel
      by_cases hn : 0 < n
      · obtain ⟨bl, hB, hl64, htk⟩ := HRY.out
        have hlen : l1.length + l2.length = l.length := by rw [← HL.out, List.length_append]
        have hcap := HR.out.cap
        have hmax := HR.out.max
        have hln := HR.out.len
        unfold maxLen at hmax
        obtain ⟨b, off, rfl, hblt, hcell⟩ := HR.out.at_ hn
        obtain ⟨M, hM⟩ : ∃ M, M = m ++ l1 := ⟨_, rfl⟩
        rw [← hM] at hB htk
        have hMl : M.length = m.length + l1.length := by rw [hM, List.length_append]
        obtain ⟨N, hN⟩ : ∃ N, N = M.length := ⟨_, rfl⟩
        obtain ⟨a, ha⟩ : ∃ a, a = M.length % 64 := ⟨_, rfl⟩
        have ha64 : a < 64 := by omega
        have hNb : N ≤ 1099511627776 := by omega
        have hea : (N : Int) % 64 = (a : Int) := by omega
        obtain ⟨k, hk⟩ : ∃ k, k = min n (64 - a) := ⟨_, rfl⟩
        have hk1 : k ≤ n := by omega
        have hk2 : a + k ≤ 64 := by omega
        have hk0 : 0 < k := by omega
        obtain ⟨w2, hcopy, hB2, hO2⟩ := copy_step hB hl64 HR.out hk ha64
        have cN : wr.cell? ⟨g, 72, none⟩ = some (.int .u64 (N : Int)) := by rw [hB.cell, hN]; exact stC_len _ bl _ (Sha.absorb_length M) hl64
        obtain ⟨x, hx⟩ : ∃ x, x = l2.take k := ⟨_, rfl⟩
        have hxl : x.length = k := by rw [hx, List.length_take]; omega
        rw [← hx] at hB2
        have hbl2 : (bl.take a ++ x ++ bl.drop (a + x.length)).length = 64 := by simp; omega
        have cN2 : w2.cell? ⟨g, 72, none⟩ = some (.int .u64 (N : Int)) := by rw [hB2.cell, hN]; exact stC_len _ _ _ (Sha.absorb_length M) hbl2
        have fN2 : w2.frozen? ⟨g, 72, none⟩ = false := hB2.frozen 72
        have hsl := slice_l (some ⟨b, off, none⟩) n c k hk1 w2
        have hat := sliceAt_l 51 64 Tryd.underlying51 g 8 a ha64 wr
        obtain ⟨w3, hw3⟩ : ∃ w3, w3 = w2.setCell ⟨g, 72, none⟩ (.int .u64 ((N : Int) + (k : Int))) := ⟨_, rfl⟩
        have HB3 : Hid (Blk w3 g 54 (stC (Sha.absorb M) (bl.take (M.length % 64) ++ x ++ bl.drop (M.length % 64 + x.length)) (M ++ x).length)) := by
          have := hB2.set_ 72 (.int .u64 (((M ++ x).length : Nat) : Int))
          rw [stC_newLen _ _ _ _ (Sha.absorb_length M) hbl2] at this
          unfold Hid
          rw [← ha, hw3]
          rw [List.length_append, hxl, ← hN] at this ⊢
          exact this
        have HO3 : Hid (wr.grownBy w3 (some g)) := by unfold Hid; rw [hw3]; exact only_setCell hO2 (.inl rfl) _
        have HR3 : Hid (Rd w3 (cutA (some ⟨b, off, none⟩) c k) (n - k) (c - k) (l2.drop k)) := by
          have h1 := (HR.out.grown HO3.out HNE.out).cut (k := k) (e := n) hk1 (Nat.le_refl _)
          rw [List.take_of_length_le (by rw [List.length_drop]; omega)] at h1
          exact h1
        have HN3 : Hid (0 < n - k → ∀ ad, cutA (some ⟨b, off, none⟩) c k = some ad → ad.block ≠ g) := fun _ ad had => by
          obtain ⟨a0, e0, e1⟩ := cut_block had
          rw [← e1]
          exact HNE.out hn a0 e0
        have HL3 : Hid (l1 ++ x ++ l2.drop k = l) := by unfold Hid; rw [hx, List.append_assoc, List.take_append_drop, HL.out]
        have HM3 : Hid (M ++ x = m ++ (l1 ++ x)) := by unfold Hid; rw [hM, List.append_assoc]
        have HON3 : Hid (w.grownBy w3 (some g)) := only_trans HON.out HO3.out
        have HTK := Lib.hid htk
        have H64' := Lib.hid hl64
        have HA := Lib.hid ha
        have HX := Lib.hid hxl
        have HW3 := Lib.hid hw3
        clear hw3 ha hxl hx hl64 htk hB2 hB hO2 hbl2 hM hMl hN hk hcell hln hlen HR HNE HL HRY hblt
        by_cases hf : a + k = 64
        · have hfb : ((a : Int) + (k : Int) == 64) = true := by simp; omega
          have HBF : Hid (Blk w3 g 54 (stC (Sha.absorb M) (M.drop (64 * (M.length / 64)) ++ x) (M ++ x).length)) := by
            have := HB3.out
            rw [full_block H64'.out HTK.out (by rw [← HA.out, HX.out]; omega)] at this
            exact this
          have HXM : Hid (M.length % 64 + x.length = 64) := by unfold Hid; rw [← HA.out, HX.out]; omega
          have HFL : Hid ((M.drop (64 * (M.length / 64)) ++ x).length = 64) := by have := HXM.out; unfold Hid; rw [List.length_append, List.length_drop]; omega
          obtain ⟨F, hF⟩ : ∃ F, F = M.drop (64 * (M.length / 64)) ++ x := ⟨_, rfl⟩
          rw [← hF] at HBF HFL
          have HF := Lib.hid hF
          obtain ⟨sc, hsc⟩ : ∃ sc, sc = (Sha.absorb M).map wd := ⟨_, rfl⟩
          obtain ⟨bc, hbc⟩ : ∃ bc, bc = F.map cellOf := ⟨_, rfl⟩
          have HI50 : Hid ((Tryd.prog.info? 50).map (·.size) = some sc.length) := by unfold Hid; rw [hsc, List.length_map, Sha.absorb_length]; kernel_rfl
          have HI51 : Hid ((Tryd.prog.info? 51).map (·.size) = some bc.length) := by unfold Hid; rw [hbc, List.length_map, HFL.out]; kernel_rfl
          have HS4 : Hid (w3.drew.rangeAt g 0 sc) := by
            intro j v hv
            rw [hsc] at hv
            rw [HBF.out.drew.cell]
            exact stC_sums _ _ _ (Sha.absorb_length M) j v hv
          have HBk : Hid (w3.drew.rangeAt g 8 bc) := by
            intro j v hv
            rw [hbc] at hv
            rw [HBF.out.drew.cell]
            exact stC_block _ _ _ (Sha.absorb_length M) HFL.out j v hv
          have HWo : Hid (∀ W : World, Calls Tryd.prog 31 #[.agg bc.toArray] W fun e w' => e = .returned (.agg ((Sha.sched F).map wd).toArray) ∧ Below W.heap.size W w') := by
            unfold Hid
            intro W
            rw [hbc]
            exact words_any F W HFL.out
          have HMi : Hid (∀ W : World, Gl W → Calls Tryd.prog 30 #[.agg sc.toArray, .agg ((Sha.sched F).map wd).toArray] W fun e w' => e = .returned (.agg ((Sha.comp (Sha.absorb M) F).map wd).toArray) ∧ Below W.heap.size W w') := by
            unfold Hid
            intro W hG
            rw [hsc]
            exact mix_any (Sha.absorb M) (Sha.sched F) W hG (Sha.absorb_length M) (Sha.sched_length F HFL.out)
          obtain ⟨sw, hsw⟩ : ∃ sw, sw = (Sha.sched F).map wd := ⟨_, rfl⟩
          obtain ⟨rc, hrc⟩ : ∃ rc, rc = (Sha.comp (Sha.absorb M) F).map wd := ⟨_, rfl⟩
          rw [← hsw, ← hrc] at HMi
          rw [← hsw] at HWo
          have HSC := Lib.hid hsc
          have HIR : Hid ((Tryd.prog.info? 50).map (·.size) = some rc.length) := by unfold Hid; rw [hrc, List.length_map, Sha.comp_length _ _ (Sha.absorb_length M)]; kernel_rfl
          have HFR : Hid (0 + rc.length ≤ (stC (Sha.absorb M) F (M ++ x).length).length) := by unfold Hid; rw [hrc, List.length_map, Sha.comp_length _ _ (Sha.absorb_length M), stC_length _ _ _ (Sha.absorb_length M) HFL.out]; omega
          have HR1 : Hid (∀ v ∈ rc, v.oneCell' = true) := by unfold Hid; rw [hrc]; exact cells_wd _
          have HRow : Hid ((stC (Sha.absorb M) F (M ++ x).length).take 0 ++ rc ++ (stC (Sha.absorb M) F (M ++ x).length).drop (0 + rc.length) = stC (Sha.comp (Sha.absorb M) F) F (M ++ x).length) := by
            unfold Hid; rw [hrc]; exact stC_newSums _ _ _ _ (Sha.absorb_length M) (Sha.comp_length _ _ (Sha.absorb_length M))
          have HR4 := Lib.hid HR3.out.drew
          have HG4 : Hid (Gl w3.drew) := (HG.out.only (only_drew HON3.out) h2)
          have HB4 := Lib.hid HBF.out.drew
          have HO4 := Lib.hid (only_drew HO3.out)
          clear hF hsc hbc hsw hrc hf
          clear HB3 HTK HO3 HON3 HBF H64'
          go_wp2_with fail
          rw [← HW3.out]
          refine wp_region_any (by kernel_rfl) ?_
          change wpAny _ _ _ _ _ _ _ (World.drew _)
          clear HW3
          generalize w3.drew = w4 at *
          refine wpAny_take (i := 0) (oi := ?oi1b) (v := .pointer (some ⟨g, 0, none⟩)) ?hi1b (by kernel_rfl) (by kernel_rfl) (by kernel_rfl) ?hQ1b ?hy1b ?rest1b
          case hi1b => simp only [List.getElem?_toArray, List.getElem?_cons_succ, List.getElem?_cons_zero]; rfl
          case hQ1b => exact fun _ _ _ h => h
          case hy1b => exact Or.inl ⟨by rfl, by intro w; go_simp⟩
          try simp only [Act.put, List.setIfInBounds_toArray, List.set_cons_zero, List.set_cons_succ]
          refine wpAny_take (i := 1) (oi := ?oi2b) (v := .pointer (some ⟨g, 0, none⟩)) ?hi2b (by kernel_rfl) (by kernel_rfl) (by kernel_rfl) ?hQ2b ?hy2b ?rest2b
          case hi2b => simp only [List.getElem?_toArray, List.getElem?_cons_succ, List.getElem?_cons_zero]; rfl
          case hQ2b => exact fun _ _ _ h => h
          case hy2b => exact Or.inl ⟨by rfl, by intro w; go_simp⟩
          try simp only [Act.put, List.setIfInBounds_toArray, List.set_cons_zero, List.set_cons_succ]
          refine wpAny_take (i := 2) (oi := ?oi3b) (v := .pointer (some ⟨g, 0, none⟩)) ?hi3b (by kernel_rfl) (by kernel_rfl) (by kernel_rfl) ?hQ3b ?hy3b ?rest3b
          case hi3b => simp only [List.getElem?_toArray, List.getElem?_cons_succ, List.getElem?_cons_zero]; rfl
          case hQ3b => exact fun _ _ _ h => h
          case hy3b => exact Or.inl ⟨by rfl, by intro w; go_simp⟩
          try simp only [Act.put, List.setIfInBounds_toArray, List.set_cons_zero, List.set_cons_succ]
          refine wpAny_take (i := 3) (oi := ?oi4b) (v := .pointer (some ⟨g, 0, none⟩)) ?hi4b (by kernel_rfl) (by kernel_rfl) (by kernel_rfl) ?hQ4b ?hy4b ?rest4b
          case hi4b => simp only [List.getElem?_toArray, List.getElem?_cons_succ, List.getElem?_cons_zero]; rfl
          case hQ4b => exact fun _ _ _ h => h
          case hy4b => exact Or.inl ⟨by rfl, by intro w; go_simp⟩
          try simp only [Act.put, List.setIfInBounds_toArray, List.set_cons_zero, List.set_cons_succ]
          refine wpAny_take (i := 5) (oi := ?oi5b) (v := .pointer (some ⟨g, 0, none⟩)) ?hi5b (by kernel_rfl) (by kernel_rfl) (by kernel_rfl) ?hQ5b ?hy5b ?rest5b
          case hi5b => simp only [List.getElem?_toArray, List.getElem?_cons_succ, List.getElem?_cons_zero]; rfl
          case hQ5b => exact fun _ _ _ h => h
          case hy5b => exact Or.inl ⟨by rfl, by intro w; go_simp⟩
          try simp only [Act.put, List.setIfInBounds_toArray, List.set_cons_zero, List.set_cons_succ]
          refine wpAny_take (i := 6) (oi := ?oi6b) (v := .pointer (some ⟨g, 0, none⟩)) ?hi6b (by kernel_rfl) (by kernel_rfl) (by kernel_rfl) ?hQ6b ?hy6b ?rest6b
          case hi6b => simp only [List.getElem?_toArray, List.getElem?_cons_succ, List.getElem?_cons_zero]; rfl
          case hQ6b => exact fun _ _ _ h => h
          case hy6b => exact Or.inl ⟨by rfl, by intro w; go_simp⟩
          try simp only [Act.put, List.setIfInBounds_toArray, List.set_cons_zero, List.set_cons_succ]
          refine wpAny_take (i := 7) (oi := ?oi7b) (v := .pointer (some ⟨g, 8, none⟩)) ?hi7b (by kernel_rfl) (by kernel_rfl) (by kernel_rfl) ?hQ7b ?hy7b ?rest7b
          case hi7b => simp only [List.getElem?_toArray, List.getElem?_cons_succ, List.getElem?_cons_zero]; rfl
          case hQ7b => exact fun _ _ _ h => h
          case hy7b => exact Or.inl ⟨by rfl, by intro w; go_simp⟩
          try simp only [Act.put, List.setIfInBounds_toArray, List.set_cons_zero, List.set_cons_succ]
          refine wpAny_ready (rs := [4, 8]) (by kernel_rfl) (by simp) ?_
          refine AllReady.cons (o := ?o8b) ?ho8b (fun K hK => ?_) ?more8b
          case ho8b => simp only [List.getElem?_toArray, List.getElem?_cons_succ, List.getElem?_cons_zero]; rfl
          · refine step_load rfl 50 (.tmp 52) rfl g 0 rfl sc _ HS4.out Tryd.underlying50 rfl HI50.out (hK _ _ ?_)
            clear hK K
            try simp only [Act.put, List.setIfInBounds_toArray, List.set_cons_zero, List.set_cons_succ]
            refine wpAny_ready (rs := [8]) (by kernel_rfl) (by simp) ?_
            refine AllReady.cons (o := ?o9b) ?ho9b (fun K hK => ?_) AllReady.nil
            case ho9b => simp only [List.getElem?_toArray, List.getElem?_cons_succ, List.getElem?_cons_zero]; rfl
            refine step_load rfl 51 (.tmp 56) rfl g 8 rfl bc _ HBk.out Tryd.underlying51 rfl HI51.out (hK _ _ ?_)
            clear hK K
            try simp only [Act.put, List.setIfInBounds_toArray, List.set_cons_zero, List.set_cons_succ]
            refine wpAny_ready (rs := [9]) (by kernel_rfl) (by simp) ?_
            refine AllReady.cons (o := ?o10b) ?ho10b (fun K hK => ?_) AllReady.nil
            case ho10b => simp only [List.getElem?_toArray, List.getElem?_cons_succ, List.getElem?_cons_zero]; rfl
            go_simp
            refine (HWo.out _).mono ?_
            rintro e w5 ⟨rfl, HX5⟩
            have HB5 := Lib.hid (HB4.out.below HX5 HB4.out.lt)
            have HG5 := Lib.hid (HG4.out.below HX5 HG4.out.size)
            have HS5 := Lib.hid (rng_sums HB5.out (Sha.absorb_length M) HSC.out)
            have O5 := Lib.hid (only_of_below HX5 (some g))
            clear HX5
            refine hK _ _ ?_
            clear hK K
            try simp only [Act.put, List.setIfInBounds_toArray, List.set_cons_zero, List.set_cons_succ]
            refine wpAny_ready (rs := [10]) (by kernel_rfl) (by simp) ?_
            refine AllReady.cons (o := ?o11b) ?ho11b (fun K hK => ?_) AllReady.nil
            case ho11b => simp only [List.getElem?_toArray, List.getElem?_cons_succ, List.getElem?_cons_zero]; rfl
            go_simp
            refine (HMi.out _ HG5.out).mono ?_
            rintro e w6 ⟨rfl, HX6⟩
            have HB6 := Lib.hid (HB5.out.below HX6 HB5.out.lt)
            have O6 := Lib.hid (only_trans O5.out (only_of_below HX6 (some g)))
            clear HX6
            refine hK _ _ ?_
            clear hK K
            try simp only [Act.put, List.setIfInBounds_toArray, List.set_cons_zero, List.set_cons_succ]
            refine wpAny_take (i := 11) (oi := ?oi12b) (v := .pointer (some ⟨g, 0, none⟩)) ?hi12b (by kernel_rfl) (by kernel_rfl) (by kernel_rfl) ?hQ12b ?hy12b ?rest12b
            case hi12b => simp only [List.getElem?_toArray, List.getElem?_cons_succ, List.getElem?_cons_zero]; rfl
            case hQ12b => exact fun _ _ _ h => h
            case hy12b => exact Or.inl ⟨by rfl, by intro w; go_simp⟩
            try simp only [Act.put, List.setIfInBounds_toArray, List.set_cons_zero, List.set_cons_succ]
            refine wpAny_take (i := 12) (oi := ?oi13b) (v := .pointer (some ⟨g, 0, none⟩)) ?hi13b (by kernel_rfl) (by kernel_rfl) (by kernel_rfl) ?hQ13b ?hy13b ?rest13b
            case hi13b => simp only [List.getElem?_toArray, List.getElem?_cons_succ, List.getElem?_cons_zero]; rfl
            case hQ13b => exact fun _ _ _ h => h
            case hy13b => exact Or.inl ⟨by rfl, by intro w; go_simp⟩
            try simp only [Act.put, List.setIfInBounds_toArray, List.set_cons_zero, List.set_cons_succ]
            refine wpAny_ready (rs := [13]) (by kernel_rfl) (by simp) ?_
            refine AllReady.cons (o := ?o14b) ?ho14b (fun K hK => ?_) AllReady.nil
            case ho14b => simp only [List.getElem?_toArray, List.getElem?_cons_succ, List.getElem?_cons_zero]; rfl
            refine step_store rfl 50 (.tmp 61) (.tmp 59) rfl g 0 rfl rc rfl 54 _ HB6.out HIR.out HFR.out HR1.out (hK _ _ ?_)
            clear hK K
            have HB7 := Lib.hid (HB6.out.row (cs' := (stC (Sha.absorb M) F (M ++ x).length).take 0 ++ rc ++ (stC (Sha.absorb M) F (M ++ x).length).drop (0 + rc.length)))
            have O7 := Lib.hid (only_setRow O6.out (.inl rfl) ((stC (Sha.absorb M) F (M ++ x).length).take 0 ++ rc ++ (stC (Sha.absorb M) F (M ++ x).length).drop (0 + rc.length)).toArray)
            generalize w6.setRow g _ = w7 at *
            try simp only [Act.put]
            refine wpAny_done (by kernel_rfl) ?_ _
            have HRY7 : Hid (Ready w7 g (m ++ (l1 ++ x))) := by
              unfold Hid
              rw [← HM3.out]
              refine ready_full ?_ HXM.out
              have := HB7.out
              rw [HRow.out, HF.out] at this
              exact this
            have HR7 := Lib.hid (HR4.out.grown O7.out HN3.out)
            have HON7 := Lib.hid (only_trans HON.out (only_trans HO4.out O7.out))
            clear HB4 HB5 HB6 HB7 O5 O6 O7 HS4 HBk HS5
            go_wp2_with fail
            go_roundw
            case rel => exact ⟨_, _, _, l1 ++ x, l2.drop k, rfl, HL3, HR7, HN3, HRY7, HON7⟩
            case measure => simp [slen]; omega
          case more8b =>
            refine AllReady.cons (o := ?o15b) ?ho15b (fun K hK => ?_) AllReady.nil
            case ho15b => simp only [List.getElem?_toArray, List.getElem?_cons_succ, List.getElem?_cons_zero]; rfl
            refine step_load rfl 51 (.tmp 56) rfl g 8 rfl bc _ HBk.out Tryd.underlying51 rfl HI51.out (hK _ _ ?_)
            clear hK K
            try simp only [Act.put, List.setIfInBounds_toArray, List.set_cons_zero, List.set_cons_succ]
            refine wpAny_ready (rs := [4, 9]) (by kernel_rfl) (by simp) ?_
            refine AllReady.cons (o := ?o16b) ?ho16b (fun K hK => ?_) ?more16b
            case ho16b => simp only [List.getElem?_toArray, List.getElem?_cons_succ, List.getElem?_cons_zero]; rfl
            · refine step_load rfl 50 (.tmp 52) rfl g 0 rfl sc _ HS4.out Tryd.underlying50 rfl HI50.out (hK _ _ ?_)
              clear hK K
              try simp only [Act.put, List.setIfInBounds_toArray, List.set_cons_zero, List.set_cons_succ]
              refine wpAny_ready (rs := [9]) (by kernel_rfl) (by simp) ?_
              refine AllReady.cons (o := ?o17b) ?ho17b (fun K hK => ?_) AllReady.nil
              case ho17b => simp only [List.getElem?_toArray, List.getElem?_cons_succ, List.getElem?_cons_zero]; rfl
              go_simp
              refine (HWo.out _).mono ?_
              rintro e w5 ⟨rfl, HX5⟩
              have HB5 := Lib.hid (HB4.out.below HX5 HB4.out.lt)
              have HG5 := Lib.hid (HG4.out.below HX5 HG4.out.size)
              have HS5 := Lib.hid (rng_sums HB5.out (Sha.absorb_length M) HSC.out)
              have O5 := Lib.hid (only_of_below HX5 (some g))
              clear HX5
              refine hK _ _ ?_
              clear hK K
              try simp only [Act.put, List.setIfInBounds_toArray, List.set_cons_zero, List.set_cons_succ]
              refine wpAny_ready (rs := [10]) (by kernel_rfl) (by simp) ?_
              refine AllReady.cons (o := ?o18b) ?ho18b (fun K hK => ?_) AllReady.nil
              case ho18b => simp only [List.getElem?_toArray, List.getElem?_cons_succ, List.getElem?_cons_zero]; rfl
              go_simp
              refine (HMi.out _ HG5.out).mono ?_
              rintro e w6 ⟨rfl, HX6⟩
              have HB6 := Lib.hid (HB5.out.below HX6 HB5.out.lt)
              have O6 := Lib.hid (only_trans O5.out (only_of_below HX6 (some g)))
              clear HX6
              refine hK _ _ ?_
              clear hK K
              try simp only [Act.put, List.setIfInBounds_toArray, List.set_cons_zero, List.set_cons_succ]
              refine wpAny_take (i := 11) (oi := ?oi19b) (v := .pointer (some ⟨g, 0, none⟩)) ?hi19b (by kernel_rfl) (by kernel_rfl) (by kernel_rfl) ?hQ19b ?hy19b ?rest19b
              case hi19b => simp only [List.getElem?_toArray, List.getElem?_cons_succ, List.getElem?_cons_zero]; rfl
              case hQ19b => exact fun _ _ _ h => h
              case hy19b => exact Or.inl ⟨by rfl, by intro w; go_simp⟩
              try simp only [Act.put, List.setIfInBounds_toArray, List.set_cons_zero, List.set_cons_succ]
              refine wpAny_take (i := 12) (oi := ?oi20b) (v := .pointer (some ⟨g, 0, none⟩)) ?hi20b (by kernel_rfl) (by kernel_rfl) (by kernel_rfl) ?hQ20b ?hy20b ?rest20b
              case hi20b => simp only [List.getElem?_toArray, List.getElem?_cons_succ, List.getElem?_cons_zero]; rfl
              case hQ20b => exact fun _ _ _ h => h
              case hy20b => exact Or.inl ⟨by rfl, by intro w; go_simp⟩
              try simp only [Act.put, List.setIfInBounds_toArray, List.set_cons_zero, List.set_cons_succ]
              refine wpAny_ready (rs := [13]) (by kernel_rfl) (by simp) ?_
              refine AllReady.cons (o := ?o21b) ?ho21b (fun K hK => ?_) AllReady.nil
              case ho21b => simp only [List.getElem?_toArray, List.getElem?_cons_succ, List.getElem?_cons_zero]; rfl
              refine step_store rfl 50 (.tmp 61) (.tmp 59) rfl g 0 rfl rc rfl 54 _ HB6.out HIR.out HFR.out HR1.out (hK _ _ ?_)
              clear hK K
              have HB7 := Lib.hid (HB6.out.row (cs' := (stC (Sha.absorb M) F (M ++ x).length).take 0 ++ rc ++ (stC (Sha.absorb M) F (M ++ x).length).drop (0 + rc.length)))
              have O7 := Lib.hid (only_setRow O6.out (.inl rfl) ((stC (Sha.absorb M) F (M ++ x).length).take 0 ++ rc ++ (stC (Sha.absorb M) F (M ++ x).length).drop (0 + rc.length)).toArray)
              generalize w6.setRow g _ = w7 at *
              try simp only [Act.put]
              refine wpAny_done (by kernel_rfl) ?_ _
              have HRY7 : Hid (Ready w7 g (m ++ (l1 ++ x))) := by
                unfold Hid
                rw [← HM3.out]
                refine ready_full ?_ HXM.out
                have := HB7.out
                rw [HRow.out, HF.out] at this
                exact this
              have HR7 := Lib.hid (HR4.out.grown O7.out HN3.out)
              have HON7 := Lib.hid (only_trans HON.out (only_trans HO4.out O7.out))
              clear HB4 HB5 HB6 HB7 O5 O6 O7 HS4 HBk HS5
              go_wp2_with fail
              go_roundw
              case rel => exact ⟨_, _, _, l1 ++ x, l2.drop k, rfl, HL3, HR7, HN3, HRY7, HON7⟩
              case measure => simp [slen]; omega
            case more16b =>
              refine AllReady.cons (o := ?o22b) ?ho22b (fun K hK => ?_) AllReady.nil
              case ho22b => simp only [List.getElem?_toArray, List.getElem?_cons_succ, List.getElem?_cons_zero]; rfl
              go_simp
              refine (HWo.out _).mono ?_
              rintro e w5 ⟨rfl, HX5⟩
              have HB5 := Lib.hid (HB4.out.below HX5 HB4.out.lt)
              have HG5 := Lib.hid (HG4.out.below HX5 HG4.out.size)
              have HS5 := Lib.hid (rng_sums HB5.out (Sha.absorb_length M) HSC.out)
              have O5 := Lib.hid (only_of_below HX5 (some g))
              clear HX5
              refine hK _ _ ?_
              clear hK K
              try simp only [Act.put, List.setIfInBounds_toArray, List.set_cons_zero, List.set_cons_succ]
              refine wpAny_ready (rs := [4]) (by kernel_rfl) (by simp) ?_
              refine AllReady.cons (o := ?o23b) ?ho23b (fun K hK => ?_) AllReady.nil
              case ho23b => simp only [List.getElem?_toArray, List.getElem?_cons_succ, List.getElem?_cons_zero]; rfl
              refine step_load rfl 50 (.tmp 52) rfl g 0 rfl sc _ HS5.out Tryd.underlying50 rfl HI50.out (hK _ _ ?_)
              clear hK K
              try simp only [Act.put, List.setIfInBounds_toArray, List.set_cons_zero, List.set_cons_succ]
              refine wpAny_ready (rs := [10]) (by kernel_rfl) (by simp) ?_
              refine AllReady.cons (o := ?o24b) ?ho24b (fun K hK => ?_) AllReady.nil
              case ho24b => simp only [List.getElem?_toArray, List.getElem?_cons_succ, List.getElem?_cons_zero]; rfl
              go_simp
              refine (HMi.out _ HG5.out).mono ?_
              rintro e w6 ⟨rfl, HX6⟩
              have HB6 := Lib.hid (HB5.out.below HX6 HB5.out.lt)
              have O6 := Lib.hid (only_trans O5.out (only_of_below HX6 (some g)))
              clear HX6
              refine hK _ _ ?_
              clear hK K
              try simp only [Act.put, List.setIfInBounds_toArray, List.set_cons_zero, List.set_cons_succ]
              refine wpAny_take (i := 11) (oi := ?oi25b) (v := .pointer (some ⟨g, 0, none⟩)) ?hi25b (by kernel_rfl) (by kernel_rfl) (by kernel_rfl) ?hQ25b ?hy25b ?rest25b
              case hi25b => simp only [List.getElem?_toArray, List.getElem?_cons_succ, List.getElem?_cons_zero]; rfl
              case hQ25b => exact fun _ _ _ h => h
              case hy25b => exact Or.inl ⟨by rfl, by intro w; go_simp⟩
              try simp only [Act.put, List.setIfInBounds_toArray, List.set_cons_zero, List.set_cons_succ]
              refine wpAny_take (i := 12) (oi := ?oi26b) (v := .pointer (some ⟨g, 0, none⟩)) ?hi26b (by kernel_rfl) (by kernel_rfl) (by kernel_rfl) ?hQ26b ?hy26b ?rest26b
              case hi26b => simp only [List.getElem?_toArray, List.getElem?_cons_succ, List.getElem?_cons_zero]; rfl
              case hQ26b => exact fun _ _ _ h => h
              case hy26b => exact Or.inl ⟨by rfl, by intro w; go_simp⟩
              try simp only [Act.put, List.setIfInBounds_toArray, List.set_cons_zero, List.set_cons_succ]
              refine wpAny_ready (rs := [13]) (by kernel_rfl) (by simp) ?_
              refine AllReady.cons (o := ?o27b) ?ho27b (fun K hK => ?_) AllReady.nil
              case ho27b => simp only [List.getElem?_toArray, List.getElem?_cons_succ, List.getElem?_cons_zero]; rfl
              refine step_store rfl 50 (.tmp 61) (.tmp 59) rfl g 0 rfl rc rfl 54 _ HB6.out HIR.out HFR.out HR1.out (hK _ _ ?_)
              clear hK K
              have HB7 := Lib.hid (HB6.out.row (cs' := (stC (Sha.absorb M) F (M ++ x).length).take 0 ++ rc ++ (stC (Sha.absorb M) F (M ++ x).length).drop (0 + rc.length)))
              have O7 := Lib.hid (only_setRow O6.out (.inl rfl) ((stC (Sha.absorb M) F (M ++ x).length).take 0 ++ rc ++ (stC (Sha.absorb M) F (M ++ x).length).drop (0 + rc.length)).toArray)
              generalize w6.setRow g _ = w7 at *
              try simp only [Act.put]
              refine wpAny_done (by kernel_rfl) ?_ _
              have HRY7 : Hid (Ready w7 g (m ++ (l1 ++ x))) := by
                unfold Hid
                rw [← HM3.out]
                refine ready_full ?_ HXM.out
                have := HB7.out
                rw [HRow.out, HF.out] at this
                exact this
              have HR7 := Lib.hid (HR4.out.grown O7.out HN3.out)
              have HON7 := Lib.hid (only_trans HON.out (only_trans HO4.out O7.out))
              clear HB4 HB5 HB6 HB7 O5 O6 O7 HS4 HBk HS5
              go_wp2_with fail
              go_roundw
              case rel => exact ⟨_, _, _, l1 ++ x, l2.drop k, rfl, HL3, HR7, HN3, HRY7, HON7⟩
              case measure => simp [slen]; omega
        · have hfb : ((a : Int) + (k : Int) == 64) = false := by simp; omega
          have HRY3 : Hid (Ready w3 g (m ++ (l1 ++ x))) := by
            unfold Hid
            rw [← HM3.out]
            exact ready_less HB3.out H64'.out HTK.out (by rw [← HA.out, HX.out]; omega)
          clear hf
          go_wp2_with fail
          rw [← HW3.out]
          go_roundw
          case rel => exact ⟨_, _, _, l1 ++ x, l2.drop k, rfl, HL3, HR3, HN3, HRY3, HON3⟩
          case measure => simp [slen]; omega
      · have hl2 : l2 = [] := List.eq_nil_of_length_eq_zero (by have := HR.out.len; omega)
        have HRYe : Hid (Ready wr g (m ++ l)) := by
          have := HL.out
          rw [hl2, List.append_nil] at this
          rw [← this]
          exact HRY
        clear hl2
        go_wp2_with fail
        go_end0
        exact ⟨rfl, HRYe.out, HON.out⟩
end Go.Proofs.YtbepofmkfloajaaDoor
