import Derived.Deep.RegionWith
import Derived.Deep.RegionHeld3
import Derived.Test.YtnfbkimkdnbohaaGreatDoorSPhase
import Derived.Test.YtnfbkimkdnbohaaGreatDoorSRw
namespace Go.Proofs.YtnfbkimkdnbohaaGreatDoor.recAll
set_option linter.unusedVariables false
set_option linter.unusedSimpArgs false
set_option maxRecDepth 100000
open Go.RowKit
theorem put_both {w : World} (r : Rc.R) (hg : Gl w) {p : List UInt8} {er : Int} {z : Nat} (hp : p = if Rc.may r then Rc.put r else []) (he : er = if Rc.may r then 0 else 1) (hz : z = p.length) : Calls Tryz.prog 9 #[recV r] w fun e w' => ∃ A c, e = .returned (.tuple #[.slice A z c, .int .i64 er]) ∧ Rd w' A z c p ∧ Below w.heap.size w w' := by
  have h : Calls Tryz.prog 9 #[recV r] w (RetE w p er) := by
    rw [hp, he]
    by_cases h : Rc.may r = true
    · rw [if_pos h, if_pos h]
      exact rput_may r hg h
    · rw [if_neg h, if_neg h]
      exact rput_no r w (by simpa using h)
  refine h.mono ?_
  rintro e w' ⟨A, n, c, rfl, hR, hX, _⟩
  have := hR.len
  obtain rfl : n = z := by rw [hz]; exact this.symm
  exact ⟨A, c, rfl, hR, hX⟩
theorem rput_both (r : Rc.R) (w : World) {p : List UInt8} {er : Int} {z : Nat} (hp : p = if Rc.may r then Rc.put r else []) (he : er = if Rc.may r then 0 else 1) (hz : z = p.length) : Calls Tryz.prog 10 #[recV r] w fun e w' => ∃ A c, e = .returned (.tuple #[.slice A z c, .int .i64 er]) ∧ Rd w' A z c p ∧ Below w.heap.size w w' := by
  refine (rrput_any r w).mono ?_
  rw [← hp, ← he]
  rintro e w' ⟨A, n, c, rfl, hR, hX, _⟩
  have := hR.len
  obtain rfl : n = z := by rw [hz]; exact this.symm
  exact ⟨A, c, rfl, hR, hX⟩
set_option maxRecDepth 100000 in
set_option maxHeartbeats 8000000 in
theorem walk {P : BxP} (hB : BoxOk P) (va vb : Int) (ga gb : Bool) (la lb : List UInt8) {A : Option Addr} {n c : Nat} {l : List UInt8} (w : World) (hg : Gl w) (ha : la.length ≤ 9223372036854775807) (hb : lb.length ≤ 9223372036854775807) (hr : Rd w A n c l) : Calls Tryz.prog 3 #[.agg #[.int .i64 va, .bool ga, .string ⟨la.toArray⟩], .agg #[.int .i64 vb, .bool gb, .string ⟨lb.toArray⟩], .slice A n c] w fun e w' => e = .returned (.bool true) ∧ Below w.heap.size w w' := by
  have HG := Lib.hid hg
  have HB := Lib.hid hB
  have HR := Lib.hid hr
  have hsz := hg.size
  have hc := hr.cap
  have hcm := hr.max
  have CA : Hid (∀ W, Calls Tryz.prog 7 #[.string ⟨la.toArray⟩, .int .i64 1003] W fun e w' => e = .returned (.string ⟨(la.take 1003).toArray⟩) ∧ W = w') := fun W => cut_eq 1003 ha (by omega)
  have CB : Hid (∀ W, Calls Tryz.prog 7 #[.string ⟨lb.toArray⟩, .int .i64 1003] W fun e w' => e = .returned (.string ⟨(lb.take 1003).toArray⟩) ∧ W = w') := fun W => cut_eq 1003 hb (by omega)
  obtain ⟨m, hm⟩ : ∃ m, m = min n 40 := ⟨_, rfl⟩
  have SH : Hid (∀ W, Calls Tryz.prog 8 #[.slice A n c, .int .i64 40] W fun e w' => e = .returned (.slice A m c) ∧ W = w') := fun W => by rw [hm]; exact short_eq 40 hc hcm (by omega)
  have HM : Hid (m = min n 40) := hm
  obtain ⟨sa, hsa⟩ : ∃ s, s = (⟨la.toArray⟩ : ByteArray) := ⟨_, rfl⟩
  obtain ⟨sb, hsb⟩ : ∃ s, s = (⟨lb.toArray⟩ : ByteArray) := ⟨_, rfl⟩
  obtain ⟨ka, hka⟩ : ∃ s, s = la.take 1003 := ⟨_, rfl⟩
  obtain ⟨kb, hkb⟩ : ∃ s, s = lb.take 1003 := ⟨_, rfl⟩
  rw [← hsa, ← hka] at CA
  rw [← hsb, ← hkb] at CB
  rw [← hsa, ← hsb]
  clear hg hB hr hsa hsb hka hkb ha hb hm hc hcm
  go_enter Tryz.func3, Tryz.ntmps3
  go_upto_region 1 with (fail)
  have BA : Hid (Blk ((w.alloc (.cells #[.int .i64 va, .bool ga, .string sa] 23)).alloc (.cells #[.int .i64 vb, .bool gb, .string sb] 23)) w.heap.size 23 [.int .i64 va, .bool ga, .string sa]) := (Blk.new _ _ _).alloc _
  have BB : Hid (Blk ((w.alloc (.cells #[.int .i64 va, .bool ga, .string sa] 23)).alloc (.cells #[.int .i64 vb, .bool gb, .string sb] 23)) (w.heap.size + 1) 23 [.int .i64 vb, .bool gb, .string sb]) := Blk.at_new _ _ _ _ _ (by rfl) (by simp)
  have W0 := Lib.hid (((Below.refl w.heap.size w).alloc (Nat.le_refl _) (.cells #[.int .i64 va, .bool ga, .string sa] 23)).alloc (by simp) (.cells #[.int .i64 vb, .bool gb, .string sb] 23))
  generalize (w.alloc (.cells #[.int .i64 va, .bool ga, .string sa] 23)).alloc (.cells #[.int .i64 vb, .bool gb, .string sb] 23) = w0 at *
  obtain ⟨g1, hg1⟩ : ∃ g, g = w.heap.size := ⟨_, rfl⟩
  go_wp2_with fail
  refine (begun9_any HB.out (HG.out.below W0.out hsz)).mono ?_
  rintro e w1 ⟨rfl, hX⟩
  have W1 := Lib.hid (W0.out.trans (hX.mono W0.out.size))
  replace BA := Lib.hid (BA.out.below hX BA.out.lt)
  replace BB := Lib.hid (BB.out.below hX BB.out.lt)
  clear hX W0
  have ca : w1.cell? ⟨w.heap.size, 2, none⟩ = some (.string sa) := BA.out.cell 2
  have cb : w1.cell? ⟨w.heap.size + 1, 2, none⟩ = some (.string sb) := BB.out.cell 2
  have fa : w1.frozen? ⟨w.heap.size, 2, none⟩ = false := BA.out.frozen 2
  have fb : w1.frozen? ⟨w.heap.size + 1, 2, none⟩ = false := BB.out.frozen 2
  go_upto_region 4 with (fail)
  have cb2 : ∀ v, (w1.setCell ⟨w.heap.size, 2, none⟩ v).cell? ⟨w.heap.size + 1, 2, none⟩ = some (.string sb) := fun v => (BB.out.far (p := ⟨w.heap.size, 2, none⟩) (by simp) v).cell 2
  have fb2 : ∀ v, (w1.setCell ⟨w.heap.size, 2, none⟩ v).frozen? ⟨w.heap.size + 1, 2, none⟩ = false := fun v => (BB.out.far (p := ⟨w.heap.size, 2, none⟩) (by simp) v).frozen 2
  go_cut [6] (fun v wx => v = .bool false ∧ Hid (Blk wx w.heap.size 23 [.int .i64 va, .bool ga, .string ⟨ka.toArray⟩]) ∧ Hid (Blk wx (w.heap.size + 1) 23 [.int .i64 vb, .bool gb, .string ⟨kb.toArray⟩]) ∧ Hid (Below w.heap.size w wx))
  case first =>
    go_region_with (first
      | (go_at_call_of 7 (Value.string sa); refine (CA.out _).mono ?_; rintro e w' ⟨rfl, rfl⟩)
      | (go_at_call_of 7 (Value.string sb); refine (CB.out _).mono ?_; rintro e w' ⟨rfl, rfl⟩))
    all_goals (go_wp2_with fail; go_meet)
    all_goals exact ⟨rfl, ((BA.out.drew).set_ 2 (.string ⟨ka.toArray⟩)).far (p := ⟨w.heap.size + 1, 2, none⟩) (by simp) _, ((BB.out.drew).far (p := ⟨w.heap.size, 2, none⟩) (by simp) _).set_ 2 (.string ⟨kb.toArray⟩), (W1.out.drew.setCell (p := ⟨w.heap.size, 2, none⟩) (Nat.le_refl _) _).setCell (p := ⟨w.heap.size + 1, 2, none⟩) (by show w.heap.size ≤ w.heap.size + 1; omega) _⟩
  case rest =>
    clear ca cb fa fb cb2 fb2 BA BB W1 CA CB
    obtain ⟨rfl, BA, BB, W2⟩ := hcut
    obtain ⟨xa, hxa⟩ : ∃ x : Rc.R, x = ⟨va, ga, ka⟩ := ⟨_, rfl⟩
    obtain ⟨xb, hxb⟩ : ∃ x : Rc.R, x = ⟨vb, gb, kb⟩ := ⟨_, rfl⟩
    obtain ⟨RA, hRA⟩ : ∃ l : List Value, l = recL xa := ⟨_, rfl⟩
    obtain ⟨RB, hRB⟩ : ∃ l : List Value, l = recL xb := ⟨_, rfl⟩
    obtain ⟨ma, hma⟩ : ∃ b, b = Rc.may xa := ⟨_, rfl⟩
    obtain ⟨mb, hmb⟩ : ∃ b, b = Rc.may xb := ⟨_, rfl⟩
    obtain ⟨pa, hpa⟩ : ∃ p, p = if ma then Rc.put xa else [] := ⟨_, rfl⟩
    obtain ⟨pb, hpb⟩ : ∃ p, p = if mb then Rc.put xb else [] := ⟨_, rfl⟩
    obtain ⟨ea, hea⟩ : ∃ e : Int, e = if ma then 0 else 1 := ⟨_, rfl⟩
    obtain ⟨eb, heb⟩ : ∃ e : Int, e = if mb then 0 else 1 := ⟨_, rfl⟩
    obtain ⟨za, hza⟩ : ∃ z, z = pa.length := ⟨_, rfl⟩
    obtain ⟨zb, hzb⟩ : ∃ z, z = pb.length := ⟨_, rfl⟩
    have KA : Hid (Blk wc w.heap.size 23 RA) := by unfold Hid; rw [hRA, hxa]; exact BA.out
    have KB : Hid (Blk wc (w.heap.size + 1) 23 RB) := by unfold Hid; rw [hRB, hxb]; exact BB.out
    have IRA : Hid ((Tryz.prog.info? 23).map (·.size) = some RA.length) := by unfold Hid; rw [hRA]; kernel_rfl
    have IRB : Hid ((Tryz.prog.info? 23).map (·.size) = some RB.length) := by unfold Hid; rw [hRB]; kernel_rfl
    have MA : Hid (∀ W : World, Calls Tryz.prog 11 #[.agg RA.toArray] W fun e w' => e = .returned (.bool ma) ∧ Below W.heap.size W w') := fun W => by rw [hma, hRA]; exact rmay_any xa W
    have MB : Hid (∀ W : World, Calls Tryz.prog 12 #[.agg RA.toArray] W fun e w' => e = .returned (.bool ma) ∧ Below W.heap.size W w') := fun W => by rw [hma, hRA]; exact rmr_any xa W
    have C1 : Hid (∀ W : World, Gl W → Calls Tryz.prog 9 #[.agg RA.toArray] W fun e w' => ∃ A c, e = .returned (.tuple #[.slice A za c, .int .i64 ea]) ∧ Rd w' A za c pa ∧ Below W.heap.size W w') := fun W h => by rw [hRA]; exact put_both xa h (by rw [hpa, hma]) (by rw [hea, hma]) hza
    have C2 : Hid (∀ W : World, Gl W → Calls Tryz.prog 9 #[.agg RB.toArray] W fun e w' => ∃ A c, e = .returned (.tuple #[.slice A zb c, .int .i64 eb]) ∧ Rd w' A zb c pb ∧ Below W.heap.size W w') := fun W h => by rw [hRB]; exact put_both xb h (by rw [hpb, hmb]) (by rw [heb, hmb]) hzb
    have C3 : Hid (∀ W : World, Calls Tryz.prog 10 #[.agg RA.toArray] W fun e w' => ∃ A c, e = .returned (.tuple #[.slice A za c, .int .i64 ea]) ∧ Rd w' A za c pa ∧ Below W.heap.size W w') := fun W => by rw [hRA]; exact rput_both xa W (by rw [hpa, hma]) (by rw [hea, hma]) hza
    have C4 : Hid (ma = true → ∀ (W : World) (A : Option Addr) (c : Nat), Gl W → Rd W A za c pa → Calls Tryz.prog 14 #[.slice A za c] W fun e w' => e = .returned (.tuple #[.agg RA.toArray, .int .i64 0]) ∧ Below W.heap.size W w') := fun h W A c h1 h2 => by
      have hmay : Rc.may xa = true := by rw [← hma]; exact h
      have hpp : pa = Rc.put xa := by rw [hpa, if_pos h]
      have hz : za ≤ 2048 := by rw [hza, hpp, Rc.put_length hmay]; exact Rc.size_le _
      have := rget_any h1 h2 (by omega)
      have e1 : Rc.gets pa = true := by rw [hpp]; exact (Rc.gets_put hmay).1
      have e2 : Rc.got pa = xa := by unfold Rc.got; rw [e1, if_pos rfl, hpp]; exact (Rc.gets_put hmay).2
      rw [e1, e2, if_pos rfl] at this
      rw [hRA]
      exact this
    have SAME : Hid (ma = true → mb = true → ∃ t : Bool, (∀ W, (Op.equalIn 10000 23 (.agg RA.toArray) (.agg RB.toArray)).run Tryz.prog W = .ok t W) ∧ (pa == pb) = t) := fun h1 h2 => by
      have m1 : Rc.may xa = true := by rw [← hma]; exact h1
      have m2 : Rc.may xb = true := by rw [← hmb]; exact h2
      by_cases hx : xa = xb
      · refine ⟨true, fun W => ?_, ?_⟩
        · rw [hRA, hRB, ← hx]; exact rec_same _ W
        · rw [hpa, hpb, h1, h2, if_pos rfl, if_pos rfl, hx]; simp
      · refine ⟨false, fun W => ?_, ?_⟩
        · rw [hRA, hRB]
          obtain ⟨t, ht, hiff⟩ := rec_eql xa xb W
          rw [ht]
          congr 1
          exact Bool.eq_false_iff.2 fun h => hx (hiff.1 h)
        · rw [hpa, hpb, h1, h2, if_pos rfl, if_pos rfl]
          simpa using fun h => hx (Rc.put_inj m1 m2 h)
    obtain ⟨Z0, hZ0⟩ : ∃ l, l = recL ⟨0, false, []⟩ := ⟨_, rfl⟩
    have HZ0 : Hid (Z0 = [.int .i64 0, .bool false, .string ⟨#[]⟩]) := hZ0
    have LRA : Hid (Z0.length = RA.length) := by unfold Hid; rw [hRA, hZ0]; rfl
    have ORA : Hid (∀ v ∈ RA, v.oneCell' = true) := by unfold Hid; rw [hRA]; simp [recL, Value.oneCell']
    have EQA : Hid (∀ W, (Op.equalIn 10000 23 (.agg RA.toArray) (.agg RA.toArray)).run Tryz.prog W = .ok true W) := by unfold Hid; rw [hRA]; exact rec_same _
    have HEA : Hid (ea = if ma then 0 else 1) := hea
    have HEB : Hid (eb = if mb then 0 else 1) := heb
    replace HR := Lib.hid (HR.out.below W2.out)
    clear hxa hxb hRA hRB hma hmb hpa hpb hea heb hza hzb hZ0 BA BB
    go_wp2_with fail
    refine (SH.out wc).mono ?_
    rintro e w3 ⟨rfl, rfl⟩
    have RS : Hid (Rd wc A m c (l.take 40)) := by unfold Hid; rw [HM.out]; exact HR.out.short 40
    clear SH HR
    go_wp2_with (with_reducible refine load_law rfl 23 (.tmp 3) rfl w.heap.size 0 rfl RA _ Tryz.underlying23 rfl IRA.out KA.out.cells ?_)
    refine (C1.out wc (HG.out.below W2.out hsz)).mono ?_
    rintro e w3 ⟨A1, c1, rfl, hR, hX⟩
    have R1 := Lib.hid hR
    replace RS := Lib.hid (RS.out.below hX)
    replace KA := Lib.hid (KA.out.below hX KA.out.lt)
    replace KB := Lib.hid (KB.out.below hX KB.out.lt)
    have W3 := Lib.hid (W2.out.trans (hX.mono W2.out.size))
    clear hR hX W2 C1
    go_wp2_with (with_reducible refine load_law rfl 23 (.tmp 4) rfl (w.heap.size + 1) 0 rfl RB _ Tryz.underlying23 rfl IRB.out KB.out.cells ?_)
    refine (C2.out w3 (HG.out.below W3.out hsz)).mono ?_
    rintro e w4 ⟨A2, c2, rfl, hR, hX⟩
    have R2 := Lib.hid hR
    replace R1 := Lib.hid (R1.out.below hX)
    replace RS := Lib.hid (RS.out.below hX)
    replace KA := Lib.hid (KA.out.below hX KA.out.lt)
    replace KB := Lib.hid (KB.out.below hX KB.out.lt)
    have W4 := Lib.hid (W3.out.trans (hX.mono W3.out.size))
    clear hR hX W3 C2
    go_wp2_with (with_reducible refine load_law rfl 23 (.tmp 3) rfl w.heap.size 0 rfl RA _ Tryz.underlying23 rfl IRA.out KA.out.cells ?_)
    refine (C3.out w4).mono ?_
    rintro e w5 ⟨A3, c3, rfl, hR, hX⟩
    have R3 := Lib.hid hR
    replace R1 := Lib.hid (R1.out.below hX)
    replace R2 := Lib.hid (R2.out.below hX)
    replace RS := Lib.hid (RS.out.below hX)
    replace KA := Lib.hid (KA.out.below hX KA.out.lt)
    replace KB := Lib.hid (KB.out.below hX KB.out.lt)
    have W5 := Lib.hid (W4.out.trans (hX.mono W4.out.size))
    clear hR hX W4 C3
    go_upto_region 9 with (fail)
    replace W5 := Lib.hid W5.out.drew
    replace R1 := Lib.hid R1.out.drew
    replace R2 := Lib.hid R2.out.drew
    replace R3 := Lib.hid R3.out.drew
    replace RS := Lib.hid RS.out.drew
    replace KA := Lib.hid KA.out.drew
    replace KB := Lib.hid KB.out.drew
    refine wp_region_any (by kernel_rfl) ?_
    change wpAny _ _ _ _ _ _ _ (World.drew _)
    generalize w5.drew = wd at *
    refine phaseL (fun i => if i = 1 then [0] else if i = 3 then [2, 1] else if i = 4 then [1, 3] else []) (fun d a w' => ∃ x44 x45 x46 x47 x48 : Value, a = { tmps := #[.agg #[.int .i64 va, .bool ga, .string sa], .agg #[.int .i64 vb, .bool gb, .string sb], .slice A m c, .pointer (some ⟨w.heap.size, 0, none⟩), .pointer (some ⟨w.heap.size + 1, 0, none⟩), undef, .bool false, .bool true, .slice A1 za c1, .int .i64 ea, .slice A2 zb c2, .int .i64 eb, .slice A3 za c3, .int .i64 ea, undef, undef, u16, u17, u18, u19, u20, u21, u22, u23, u24, u25, u26, .slice A n c, .slice A m c, .tuple #[.slice A1 za c1, .int .i64 ea], .agg RA.toArray, .tuple #[.slice A1 za c1, .int .i64 ea], .slice A1 za c1, .int .i64 ea, .tuple #[.slice A2 zb c2, .int .i64 eb], .agg RB.toArray, .tuple #[.slice A2 zb c2, .int .i64 eb], .slice A2 zb c2, .int .i64 eb, .tuple #[.slice A3 za c3, .int .i64 ea], .agg RA.toArray, .tuple #[.slice A3 za c3, .int .i64 ea], .slice A3 za c3, .int .i64 ea, x44, x45, x46, x47, x48, u49, u50, u51, u52, u53, u54, u55, u56, u57, u58, u59, u60, u61, u62, u63, u64, u65, u66, u67, u68, u69, u70, u71, u72, u73, u74, u75, u76, u77, u78, u79, u80, u81, u82, u83, u84, u85, u86, u87, u88, u89, u90, u91, u92, u93, u94], defers := [] } ∧ Hid (Below wd.heap.size wd w') ∧ (d 0 = true → x44 = .agg RA.toArray) ∧ (d 1 = true → x45 = .bool ma) ∧ (d 2 = true → x46 = .agg RA.toArray) ∧ (d 3 = true → x47 = .bool ma) ∧ (d 4 = true → x48 = .bool false)) [0, 1, 2, 3, 4] ?step1 17 5 [0, 1, 2, 3, 4] _ _ _ rfl (by decide) (fun _ h => h) (Fits.of (by kernel_rfl)) ?init1 ?fin1
    case init1 => refine ⟨_, _, _, _, _, rfl, Below.refl _ _, ?_, ?_, ?_, ?_, ?_⟩ <;> (intro h; exact absurd h (by decide))
    case step1 =>
      intro i hi d a v1 hI hdi hdeps
      obtain ⟨x44, x45, x46, x47, x48, rfl, BW, h0, h1, h2, h3, h4⟩ := hI
      have hsw := BW.out.size
      simp only [List.mem_cons, List.not_mem_nil, or_false] at hi
      rcases hi with rfl | rfl | rfl | rfl | rfl
      · refine wpOp_step (o := ?os2) ?hos2 (fun K hK => ?_)
        case hos2 => simp only [zge]; rfl
        refine step_loadW rfl 23 (.tmp 3) rfl w.heap.size 0 rfl RA _ Tryz.underlying23 rfl IRA.out (KA.out.below BW.out KA.out.lt).cells (hK _ _ ?_)
        clear hK K
        try simp only [zpt]
        exact ⟨_, _, _, _, _, rfl, BW, fun _ => rfl, fun a => by first | exact h1 (by simpa using a) | rfl, fun a => by first | exact h2 (by simpa using a) | rfl, fun a => by first | exact h3 (by simpa using a) | rfl, fun a => by first | exact h4 (by simpa using a) | rfl⟩
      · obtain rfl := h0 (hdeps 0 (by simp))
        refine wpOp_step (o := ?os3) ?hos3 (fun K hK => ?_)
        case hos3 => simp only [zge]; rfl
        go_simp
        refine (MA.out v1).mono ?_
        rintro e u1 ⟨rfl, hX⟩
        refine hK _ _ ?_
        clear hK K
        try simp only [zpt]
        exact ⟨_, _, _, _, _, rfl, BW.out.trans (hX.mono hsw), fun a => by first | exact h0 (by simpa using a) | rfl, fun _ => rfl, fun a => by first | exact h2 (by simpa using a) | rfl, fun a => by first | exact h3 (by simpa using a) | rfl, fun a => by first | exact h4 (by simpa using a) | rfl⟩
      · refine wpOp_step (o := ?os4) ?hos4 (fun K hK => ?_)
        case hos4 => simp only [zge]; rfl
        refine step_loadW rfl 23 (.tmp 3) rfl w.heap.size 0 rfl RA _ Tryz.underlying23 rfl IRA.out (KA.out.below BW.out KA.out.lt).cells (hK _ _ ?_)
        clear hK K
        try simp only [zpt]
        exact ⟨_, _, _, _, _, rfl, BW, fun a => by first | exact h0 (by simpa using a) | rfl, fun a => by first | exact h1 (by simpa using a) | rfl, fun _ => rfl, fun a => by first | exact h3 (by simpa using a) | rfl, fun a => by first | exact h4 (by simpa using a) | rfl⟩
      · obtain rfl := h2 (hdeps 2 (by simp))
        refine wpOp_step (o := ?os5) ?hos5 (fun K hK => ?_)
        case hos5 => simp only [zge]; rfl
        go_simp
        refine (MB.out v1).mono ?_
        rintro e u1 ⟨rfl, hX⟩
        refine hK _ _ ?_
        clear hK K
        try simp only [zpt]
        exact ⟨_, _, _, _, _, rfl, BW.out.trans (hX.mono hsw), fun a => by first | exact h0 (by simpa using a) | rfl, fun a => by first | exact h1 (by simpa using a) | rfl, fun a => by first | exact h2 (by simpa using a) | rfl, fun _ => rfl, fun a => by first | exact h4 (by simpa using a) | rfl⟩
      · obtain rfl := h1 (hdeps 1 (by simp))
        obtain rfl := h3 (hdeps 3 (by simp))
        refine wpOp_step (o := ?os6) ?hos6 (fun K hK => ?_)
        case hos6 => simp only [zge]; rfl
        go_simp
        refine hK _ _ ?_
        clear hK K
        try simp only [zpt]
        exact ⟨_, _, _, _, _, rfl, BW, fun a => by first | exact h0 (by simpa using a) | rfl, fun a => by first | exact h1 (by simpa using a) | rfl, fun a => by first | exact h2 (by simpa using a) | rfl, fun a => by first | exact h3 (by simpa using a) | rfl, fun _ => rfl⟩
    case fin1 =>
      intro a v1 hI
      obtain ⟨x44, x45, x46, x47, x48, rfl, BW, h0, h1, h2, h3, h4⟩ := hI
      obtain rfl := h0 (by decide)
      obtain rfl := h1 (by decide)
      obtain rfl := h2 (by decide)
      obtain rfl := h3 (by decide)
      obtain rfl := h4 (by decide)
      have W6 := Lib.hid (W5.out.trans (BW.out.mono W5.out.size))
      replace R1 := Lib.hid (R1.out.below BW.out)
      replace R2 := Lib.hid (R2.out.below BW.out)
      replace R3 := Lib.hid (R3.out.below BW.out)
      replace RS := Lib.hid (RS.out.below BW.out)
      replace KA := Lib.hid (KA.out.below BW.out KA.out.lt)
      replace KB := Lib.hid (KB.out.below BW.out KB.out.lt)
      clear BW W5 MA MB
      try dsimp only
      refine wpAny_take (i := 5) (oi := ?oi7) (v := .bool false) ?hi7 (by kernel_rfl) (by kernel_rfl) (by kernel_rfl) ?hQ7 ?hy7 ?rest7
      case hi7 => simp only [zge]; rfl
      case hQ7 => exact fun _ _ _ h => h
      case hy7 => exact Or.inl ⟨by rfl, by intro w; go_simp⟩
      try simp only [zpt]
      refine wpAny_take (i := 6) (oi := ?oi8) (v := .int .i64 ea) ?hi8 (by kernel_rfl) (by kernel_rfl) (by kernel_rfl) ?hQ8 ?hy8 ?rest8
      case hi8 => simp only [zge]; rfl
      case hQ8 => exact fun _ _ _ h => h
      case hy8 => exact Or.inl ⟨by rfl, by intro w; go_simp⟩
      try simp only [zpt]
      refine wpAny_take (i := 7) (oi := ?oi9) (v := .int .i64 ea) ?hi9 (by kernel_rfl) (by kernel_rfl) (by kernel_rfl) ?hQ9 ?hy9 ?rest9
      case hi9 => simp only [zge]; rfl
      case hQ9 => exact fun _ _ _ h => h
      case hy9 => exact Or.inl ⟨by rfl, by intro w; go_simp⟩
      try simp only [zpt]
      refine wpAny_take (i := 8) (oi := ?oi10) (v := .bool false) ?hi10 (by kernel_rfl) (by kernel_rfl) (by kernel_rfl) ?hQ10 ?hy10 ?rest10
      case hi10 => simp only [zge]; rfl
      case hQ10 => exact fun _ _ _ h => h
      case hy10 => exact Or.inl ⟨by rfl, by intro w; go_simp⟩
      try simp only [zpt]
      refine wpAny_take (i := 9) (oi := ?oi11) (v := .bool false) ?hi11 (by kernel_rfl) (by kernel_rfl) (by kernel_rfl) ?hQ11 ?hy11 ?rest11
      case hi11 => simp only [zge]; rfl
      case hQ11 => exact fun _ _ _ h => h
      case hy11 => exact Or.inl ⟨by rfl, by intro w; go_simp⟩
      try simp only [zpt]
      refine wpAny_take (i := 10) (oi := ?oi12) (v := .bool false) ?hi12 (by kernel_rfl) (by kernel_rfl) (by kernel_rfl) ?hQ12 ?hy12 ?rest12
      case hi12 => simp only [zge]; rfl
      case hQ12 => exact fun _ _ _ h => h
      case hy12 => exact Or.inl ⟨by rfl, by intro w; go_simp⟩
      try simp only [zpt]
      refine wpAny_take (i := 11) (oi := ?oi13) (v := .slice A1 za c1) ?hi13 (by kernel_rfl) (by kernel_rfl) (by kernel_rfl) ?hQ13 ?hy13 ?rest13
      case hi13 => simp only [zge]; rfl
      case hQ13 => exact fun _ _ _ h => h
      case hy13 => exact Or.inl ⟨by rfl, by intro w; go_simp⟩
      try simp only [zpt]
      refine wpAny_take (i := 13) (oi := ?oi14) (v := .slice A3 za c3) ?hi14 (by kernel_rfl) (by kernel_rfl) (by kernel_rfl) ?hQ14 ?hy14 ?rest14
      case hi14 => simp only [zge]; rfl
      case hQ14 => exact fun _ _ _ h => h
      case hy14 => exact Or.inl ⟨by rfl, by intro w; go_simp⟩
      try simp only [zpt]
      refine phaseL (fun i => []) (fun d a w' => ∃ x56 x58 : Value, a = { tmps := #[.agg #[.int .i64 va, .bool ga, .string sa], .agg #[.int .i64 vb, .bool gb, .string sb], .slice A m c, .pointer (some ⟨w.heap.size, 0, none⟩), .pointer (some ⟨w.heap.size + 1, 0, none⟩), undef, .bool false, .bool true, .slice A1 za c1, .int .i64 ea, .slice A2 zb c2, .int .i64 eb, .slice A3 za c3, .int .i64 ea, undef, undef, u16, u17, u18, u19, u20, u21, u22, u23, u24, u25, u26, .slice A n c, .slice A m c, .tuple #[.slice A1 za c1, .int .i64 ea], .agg RA.toArray, .tuple #[.slice A1 za c1, .int .i64 ea], .slice A1 za c1, .int .i64 ea, .tuple #[.slice A2 zb c2, .int .i64 eb], .agg RB.toArray, .tuple #[.slice A2 zb c2, .int .i64 eb], .slice A2 zb c2, .int .i64 eb, .tuple #[.slice A3 za c3, .int .i64 ea], .agg RA.toArray, .tuple #[.slice A3 za c3, .int .i64 ea], .slice A3 za c3, .int .i64 ea, .agg RA.toArray, .bool ma, .agg RA.toArray, .bool ma, .bool false, .bool false, .int .i64 ea, .int .i64 ea, .bool false, .bool false, .bool false, .slice A1 za c1, x56, .slice A3 za c3, x58, u59, u60, u61, u62, u63, u64, u65, u66, u67, u68, u69, u70, u71, u72, u73, u74, u75, u76, u77, u78, u79, u80, u81, u82, u83, u84, u85, u86, u87, u88, u89, u90, u91, u92, u93, u94], defers := [] } ∧ Hid (Below v1.heap.size v1 w') ∧ (d 12 = true → x56 = .string ⟨pa.toArray⟩) ∧ (d 14 = true → x58 = .string ⟨pa.toArray⟩)) [12, 14] ?step15 7 2 [12, 14] _ _ _ rfl (by decide) (fun _ h => h) (Fits.of (by kernel_rfl)) ?init15 ?fin15
      case init15 => refine ⟨_, _, rfl, Below.refl _ _, ?_, ?_⟩ <;> (intro h; exact absurd h (by decide))
      case step15 =>
        intro i hi d a v15 hI hdi hdeps
        obtain ⟨x56, x58, rfl, BW, h12, h14⟩ := hI
        have hsw := BW.out.size
        simp only [List.mem_cons, List.not_mem_nil, or_false] at hi
        rcases hi with rfl | rfl
        · have hcv := conv_bytes (R1.out.below BW.out)
          refine wpOp_step (o := ?os16) ?hos16 (fun K hK => ?_)
          case hos16 => simp only [zge]; rfl
          go_simp
          refine hK _ _ ?_
          clear hK K
          try simp only [zpt]
          exact ⟨_, _, rfl, BW, fun _ => rfl, fun a => by first | exact h14 (by simpa using a) | rfl⟩
        · have hcv := conv_bytes (R3.out.below BW.out)
          refine wpOp_step (o := ?os17) ?hos17 (fun K hK => ?_)
          case hos17 => simp only [zge]; rfl
          go_simp
          refine hK _ _ ?_
          clear hK K
          try simp only [zpt]
          exact ⟨_, _, rfl, BW, fun a => by first | exact h12 (by simpa using a) | rfl, fun _ => rfl⟩
      case fin15 =>
        intro a v15 hI
        obtain ⟨x56, x58, rfl, BW, h12, h14⟩ := hI
        obtain rfl := h12 (by decide)
        obtain rfl := h14 (by decide)
        have W7 := Lib.hid (W6.out.trans (BW.out.mono W6.out.size))
        replace R1 := Lib.hid (R1.out.below BW.out)
        replace R2 := Lib.hid (R2.out.below BW.out)
        replace RS := Lib.hid (RS.out.below BW.out)
        replace KA := Lib.hid (KA.out.below BW.out KA.out.lt)
        replace KB := Lib.hid (KB.out.below BW.out KB.out.lt)
        have hss := str_same pa
        clear BW W6 R3
        try dsimp only
        refine wpAny_take (i := 15) (oi := ?oi18) (v := .bool false) ?hi18 (by kernel_rfl) (by kernel_rfl) (by kernel_rfl) ?hQ18 ?hy18 ?rest18
        case hi18 => simp only [zge]; rfl
        case hQ18 => exact fun _ _ _ h => h
        case hy18 => exact Or.inl ⟨by rfl, by intro w; go_simp⟩
        try simp only [zpt]
        refine wpAny_take (i := 16) (oi := ?oi19) (v := .bool false) ?hi19 (by kernel_rfl) (by kernel_rfl) (by kernel_rfl) ?hQ19 ?hy19 ?rest19
        case hi19 => simp only [zge]; rfl
        case hQ19 => exact fun _ _ _ h => h
        case hy19 => exact Or.inl ⟨by rfl, by intro w; go_simp⟩
        try simp only [zpt]
        refine wpAny_take (i := 17) (oi := ?oi20) (v := .bool false) ?hi20 (by kernel_rfl) (by kernel_rfl) (by kernel_rfl) ?hQ20 ?hy20 ?rest20
        case hi20 => simp only [zge]; rfl
        case hQ20 => exact fun _ _ _ h => h
        case hy20 => exact Or.inl ⟨by rfl, by intro w; go_simp⟩
        try simp only [zpt]
        refine wpAny_take (i := 18) (oi := ?oi21) (v := .slice A m c) ?hi21 (by kernel_rfl) (by kernel_rfl) (by kernel_rfl) ?hQ21 ?hy21 ?rest21
        case hi21 => simp only [zge]; rfl
        case hQ21 => exact fun _ _ _ h => h
        case hy21 => exact Or.inl ⟨by rfl, by intro w; go_simp⟩
        try simp only [zpt]
        have hm40 : m ≤ 40 := by rw [HM.out]; omega
        have CG := Lib.hid (rgets_any (HG.out.below W7.out hsz) RS.out (by omega))
        refine wpAny_ready (rs := [19]) (by kernel_rfl) (by simp) ?_
        refine AllReady.cons (o := ?p22) ?q22 (fun K hK => ?_) AllReady.nil
        case q22 => simp only [zge]; rfl
        go_simp
        refine CG.out.mono ?_
        rintro e w8 ⟨rfl, hX⟩
        have W8 := Lib.hid (W7.out.trans (hX.mono W7.out.size))
        replace R1 := Lib.hid (R1.out.below hX)
        replace R2 := Lib.hid (R2.out.below hX)
        replace KA := Lib.hid (KA.out.below hX KA.out.lt)
        replace KB := Lib.hid (KB.out.below hX KB.out.lt)
        clear hX W7 RS CG
        refine hK _ _ ?_
        clear hK K
        try simp only [zpt]
        refine wpAny_take (i := 20) (oi := ?oi23) (v := .bool false) ?hi23 (by kernel_rfl) (by kernel_rfl) (by kernel_rfl) ?hQ23 ?hy23 ?rest23
        case hi23 => simp only [zge]; rfl
        case hQ23 => exact fun _ _ _ h => h
        case hy23 => exact Or.inl ⟨by rfl, by intro w; go_simp⟩
        try simp only [zpt]
        refine wpAny_take (i := 21) (oi := ?oi24) (v := .bool false) ?hi24 (by kernel_rfl) (by kernel_rfl) (by kernel_rfl) ?hQ24 ?hy24 ?rest24
        case hi24 => simp only [zge]; rfl
        case hQ24 => exact fun _ _ _ h => h
        case hy24 => exact Or.inl ⟨by rfl, by intro w; go_simp⟩
        try simp only [zpt]
        refine wpAny_done (by kernel_rfl) ?_ _
        by_cases h1 : ma = true
        · obtain rfl : ea = 0 := by rw [HEA.out, h1]; rfl
          by_cases h2 : mb = true
          · obtain rfl : eb = 0 := by rw [HEB.out, h2]; rfl
            obtain ⟨t, hEQ, hst⟩ := SAME.out h1 h2
            have HEQ := Lib.hid hEQ
            have HST := Lib.hid hst
            have CG := Lib.hid (C4.out h1 w8 A1 c1 (HG.out.below W8.out hsz) R1.out)
            clear SAME C4 hEQ hst
            go_wp2_with fail
            refine CG.out.mono ?_
            rintro e w9 ⟨rfl, hX⟩
            have W9 := Lib.hid (W8.out.trans (hX.mono W8.out.size))
            replace R1 := Lib.hid (R1.out.below hX)
            replace R2 := Lib.hid (R2.out.below hX)
            replace KA := Lib.hid (KA.out.below hX KA.out.lt)
            replace KB := Lib.hid (KB.out.below hX KB.out.lt)
            clear hX W8 CG
            go_upto_region 14 with (first
              | ((with_reducible refine storeGen_law rfl 23 (.tmp 14) (.tmp 75) rfl w9.heap.size rfl RA rfl 23 Z0 IRA.out LRA.out ORA.out w9.heap.size w9 ?_ ?_ (Nat.le_refl _) ?_)
                 · rw [HZ0.out]; exact Blk.at_new _ _ 23 _ _ (by rfl) rfl
                 · exact (Below.refl _ _).alloc (Nat.le_refl _) _
                 intro wa KC Xa))
            have Wa := Lib.hid (W9.out.trans (Xa.out.mono W9.out.size)).drew
            have R1 := Lib.hid (R1.out.below Xa.out).drew
            have R2 := Lib.hid (R2.out.below Xa.out).drew
            have KA := Lib.hid (KA.out.below Xa.out KA.out.lt).drew
            have KB := Lib.hid (KB.out.below Xa.out KB.out.lt).drew
            have KC := Lib.hid KC.out.drew
            have heq := EQA.out
            have heq2 := HEQ.out
            have hst := HST.out
            clear Xa W9
            refine wp_region_any (by kernel_rfl) ?_
            change wpAny _ _ _ _ _ _ _ (World.drew _)
            generalize wa.drew = wb at *
            refine wpAny_take (i := 0) (oi := ?oi25) (v := .int .i64 0) ?hi25 (by kernel_rfl) (by kernel_rfl) (by kernel_rfl) ?hQ25 ?hy25 ?rest25
            case hi25 => simp only [zge]; rfl
            case hQ25 => exact fun _ _ _ h => h
            case hy25 => exact Or.inl ⟨by rfl, by intro w; go_simp⟩
            try simp only [zpt]
            refine wpAny_take (i := 1) (oi := ?oi26) (v := .bool true) ?hi26 (by kernel_rfl) (by kernel_rfl) (by kernel_rfl) ?hQ26 ?hy26 ?rest26
            case hi26 => simp only [zge]; rfl
            case hQ26 => exact fun _ _ _ h => h
            case hy26 => exact Or.inl ⟨by rfl, by intro w; go_simp⟩
            try simp only [zpt]
            refine wpAny_take (i := 2) (oi := ?oi27) (v := .bool true) ?hi27 (by kernel_rfl) (by kernel_rfl) (by kernel_rfl) ?hQ27 ?hy27 ?rest27
            case hi27 => simp only [zge]; rfl
            case hQ27 => exact fun _ _ _ h => h
            case hy27 => exact Or.inl ⟨by rfl, by intro w; go_simp⟩
            try simp only [zpt]
            refine phaseL (fun i => if i = 5 then [3, 4] else []) (fun d a w' => ∃ x80 x81 x82 : Value, a = { tmps := #[.agg #[.int .i64 va, .bool ga, .string sa], .agg #[.int .i64 vb, .bool gb, .string sb], .slice A m c, .pointer (some ⟨w.heap.size, 0, none⟩), .pointer (some ⟨w.heap.size + 1, 0, none⟩), undef, .bool false, .bool true, .slice A1 za c1, .int .i64 0, .slice A2 zb c2, .int .i64 0, .slice A3 za c3, .int .i64 0, .pointer (some ⟨w9.heap.size, 0, none⟩), .int .i64 0, u16, u17, u18, u19, u20, u21, u22, u23, u24, u25, u26, .slice A n c, .slice A m c, .tuple #[.slice A1 za c1, .int .i64 0], .agg RA.toArray, .tuple #[.slice A1 za c1, .int .i64 0], .slice A1 za c1, .int .i64 0, .tuple #[.slice A2 zb c2, .int .i64 0], .agg RB.toArray, .tuple #[.slice A2 zb c2, .int .i64 0], .slice A2 zb c2, .int .i64 0, .tuple #[.slice A3 za c3, .int .i64 0], .agg RA.toArray, .tuple #[.slice A3 za c3, .int .i64 0], .slice A3 za c3, .int .i64 0, .agg RA.toArray, .bool true, .agg RA.toArray, .bool true, .bool false, .bool false, .int .i64 0, .int .i64 0, .bool false, .bool false, .bool false, .slice A1 za c1, .string ⟨pa.toArray⟩, .slice A3 za c3, .string ⟨pa.toArray⟩, .bool false, .bool false, .bool false, .slice A m c, .bool true, .bool false, .bool false, .int .i64 0, .bool false, .bool false, .int .i64 0, .bool false, .bool false, .tuple #[.agg RA.toArray, .int .i64 0], .slice A1 za c1, .tuple #[.agg RA.toArray, .int .i64 0], .agg RA.toArray, .int .i64 0, .int .i64 0, .bool true, .bool true, x80, x81, x82, u83, u84, u85, u86, u87, u88, u89, u90, u91, u92, u93, u94], defers := [] } ∧ Hid (Below wb.heap.size wb w') ∧ (d 3 = true → x80 = .agg RA.toArray) ∧ (d 4 = true → x81 = .agg RA.toArray) ∧ (d 5 = true → x82 = .bool true)) [3, 4, 5] ?step28 13 3 [3, 4, 5] _ _ _ rfl (by decide) (fun _ h => h) (Fits.of (by kernel_rfl)) ?init28 ?fin28
            case init28 => refine ⟨_, _, _, rfl, Below.refl _ _, ?_, ?_, ?_⟩ <;> (intro h; exact absurd h (by decide))
            case step28 =>
              intro i hi d a v28 hI hdi hdeps
              obtain ⟨x80, x81, x82, rfl, BW, h3, h4, h5⟩ := hI
              have hsw := BW.out.size
              simp only [List.mem_cons, List.not_mem_nil, or_false] at hi
              rcases hi with rfl | rfl | rfl
              · refine wpOp_step (o := ?os29) ?hos29 (fun K hK => ?_)
                case hos29 => simp only [zge]; rfl
                refine step_loadW rfl 23 (.tmp 14) rfl w9.heap.size 0 rfl RA _ Tryz.underlying23 rfl IRA.out (KC.out.below BW.out KC.out.lt).cells (hK _ _ ?_)
                clear hK K
                try simp only [zpt]
                exact ⟨_, _, _, rfl, BW, fun _ => rfl, fun a => by first | exact h4 (by simpa using a) | rfl, fun a => by first | exact h5 (by simpa using a) | rfl⟩
              · refine wpOp_step (o := ?os30) ?hos30 (fun K hK => ?_)
                case hos30 => simp only [zge]; rfl
                refine step_loadW rfl 23 (.tmp 3) rfl w.heap.size 0 rfl RA _ Tryz.underlying23 rfl IRA.out (KA.out.below BW.out KA.out.lt).cells (hK _ _ ?_)
                clear hK K
                try simp only [zpt]
                exact ⟨_, _, _, rfl, BW, fun a => by first | exact h3 (by simpa using a) | rfl, fun _ => rfl, fun a => by first | exact h5 (by simpa using a) | rfl⟩
              · obtain rfl := h3 (hdeps 3 (by simp))
                obtain rfl := h4 (hdeps 4 (by simp))
                refine wpOp_step (o := ?os31) ?hos31 (fun K hK => ?_)
                case hos31 => simp only [zge]; rfl
                go_simp
                refine hK _ _ ?_
                clear hK K
                try simp only [zpt]
                exact ⟨_, _, _, rfl, BW, fun a => by first | exact h3 (by simpa using a) | rfl, fun a => by first | exact h4 (by simpa using a) | rfl, fun _ => rfl⟩
            case fin28 =>
              intro a v28 hI
              obtain ⟨x80, x81, x82, rfl, BW, h3, h4, h5⟩ := hI
              obtain rfl := h3 (by decide)
              obtain rfl := h4 (by decide)
              obtain rfl := h5 (by decide)
              replace Wa := Lib.hid (Wa.out.trans (BW.out.mono Wa.out.size))
              replace R1 := Lib.hid (R1.out.below BW.out)
              replace R2 := Lib.hid (R2.out.below BW.out)
              replace KA := Lib.hid (KA.out.below BW.out KA.out.lt)
              replace KB := Lib.hid (KB.out.below BW.out KB.out.lt)
              clear BW KC
              try dsimp only
              refine wpAny_take (i := 6) (oi := ?oi32) (v := .bool true) ?hi32 (by kernel_rfl) (by kernel_rfl) (by kernel_rfl) ?hQ32 ?hy32 ?rest32
              case hi32 => simp only [zge]; rfl
              case hQ32 => exact fun _ _ _ h => h
              case hy32 => exact Or.inl ⟨by rfl, by intro w; go_simp⟩
              try simp only [zpt]
              refine wpAny_take (i := 7) (oi := ?oi33) (v := .bool true) ?hi33 (by kernel_rfl) (by kernel_rfl) (by kernel_rfl) ?hQ33 ?hy33 ?rest33
              case hi33 => simp only [zge]; rfl
              case hQ33 => exact fun _ _ _ h => h
              case hy33 => exact Or.inl ⟨by rfl, by intro w; go_simp⟩
              try simp only [zpt]
              refine wpAny_take (i := 8) (oi := ?oi34) (v := .slice A1 za c1) ?hi34 (by kernel_rfl) (by kernel_rfl) (by kernel_rfl) ?hQ34 ?hy34 ?rest34
              case hi34 => simp only [zge]; rfl
              case hQ34 => exact fun _ _ _ h => h
              case hy34 => exact Or.inl ⟨by rfl, by intro w; go_simp⟩
              try simp only [zpt]
              refine wpAny_take (i := 10) (oi := ?oi35) (v := .slice A2 zb c2) ?hi35 (by kernel_rfl) (by kernel_rfl) (by kernel_rfl) ?hQ35 ?hy35 ?rest35
              case hi35 => simp only [zge]; rfl
              case hQ35 => exact fun _ _ _ h => h
              case hy35 => exact Or.inl ⟨by rfl, by intro w; go_simp⟩
              try simp only [zpt]
              refine phaseL (fun i => if i = 12 then [9, 11] else if i = 15 then [13, 14] else if i = 16 then [12, 15] else []) (fun d a w' => ∃ x86 x88 x89 x90 x91 x92 x93 : Value, a = { tmps := #[.agg #[.int .i64 va, .bool ga, .string sa], .agg #[.int .i64 vb, .bool gb, .string sb], .slice A m c, .pointer (some ⟨w.heap.size, 0, none⟩), .pointer (some ⟨w.heap.size + 1, 0, none⟩), undef, .bool false, .bool true, .slice A1 za c1, .int .i64 0, .slice A2 zb c2, .int .i64 0, .slice A3 za c3, .int .i64 0, .pointer (some ⟨w9.heap.size, 0, none⟩), .int .i64 0, u16, u17, u18, u19, u20, u21, u22, u23, u24, u25, u26, .slice A n c, .slice A m c, .tuple #[.slice A1 za c1, .int .i64 0], .agg RA.toArray, .tuple #[.slice A1 za c1, .int .i64 0], .slice A1 za c1, .int .i64 0, .tuple #[.slice A2 zb c2, .int .i64 0], .agg RB.toArray, .tuple #[.slice A2 zb c2, .int .i64 0], .slice A2 zb c2, .int .i64 0, .tuple #[.slice A3 za c3, .int .i64 0], .agg RA.toArray, .tuple #[.slice A3 za c3, .int .i64 0], .slice A3 za c3, .int .i64 0, .agg RA.toArray, .bool true, .agg RA.toArray, .bool true, .bool false, .bool false, .int .i64 0, .int .i64 0, .bool false, .bool false, .bool false, .slice A1 za c1, .string ⟨pa.toArray⟩, .slice A3 za c3, .string ⟨pa.toArray⟩, .bool false, .bool false, .bool false, .slice A m c, .bool true, .bool false, .bool false, .int .i64 0, .bool false, .bool false, .int .i64 0, .bool false, .bool false, .tuple #[.agg RA.toArray, .int .i64 0], .slice A1 za c1, .tuple #[.agg RA.toArray, .int .i64 0], .agg RA.toArray, .int .i64 0, .int .i64 0, .bool true, .bool true, .agg RA.toArray, .agg RA.toArray, .bool true, .bool true, .bool true, .slice A1 za c1, x86, .slice A2 zb c2, x88, x89, x90, x91, x92, x93, u94], defers := [] } ∧ Hid (Below v28.heap.size v28 w') ∧ (d 9 = true → x86 = .string ⟨pa.toArray⟩) ∧ (d 11 = true → x88 = .string ⟨pb.toArray⟩) ∧ (d 12 = true → x89 = .bool t) ∧ (d 13 = true → x90 = .agg RA.toArray) ∧ (d 14 = true → x91 = .agg RB.toArray) ∧ (d 15 = true → x92 = .bool t) ∧ (d 16 = true → x93 = .bool true)) [9, 11, 12, 13, 14, 15, 16] ?step36 2 7 [9, 11, 12, 13, 14, 15, 16] _ _ _ rfl (by decide) (fun _ h => h) (Fits.of (by kernel_rfl)) ?init36 ?fin36
              case init36 => refine ⟨_, _, _, _, _, _, _, rfl, Below.refl _ _, ?_, ?_, ?_, ?_, ?_, ?_, ?_⟩ <;> (intro h; exact absurd h (by decide))
              case step36 =>
                intro i hi d a v36 hI hdi hdeps
                obtain ⟨x86, x88, x89, x90, x91, x92, x93, rfl, BW, h9, h11, h12, h13, h14, h15, h16⟩ := hI
                have hsw := BW.out.size
                simp only [List.mem_cons, List.not_mem_nil, or_false] at hi
                rcases hi with rfl | rfl | rfl | rfl | rfl | rfl | rfl
                · have hcv := conv_bytes (R1.out.below BW.out)
                  refine wpOp_step (o := ?os37) ?hos37 (fun K hK => ?_)
                  case hos37 => simp only [zge]; rfl
                  go_simp
                  refine hK _ _ ?_
                  clear hK K
                  try simp only [zpt]
                  exact ⟨_, _, _, _, _, _, _, rfl, BW, fun _ => rfl, fun a => by first | exact h11 (by simpa using a) | rfl, fun a => by first | exact h12 (by simpa using a) | rfl, fun a => by first | exact h13 (by simpa using a) | rfl, fun a => by first | exact h14 (by simpa using a) | rfl, fun a => by first | exact h15 (by simpa using a) | rfl, fun a => by first | exact h16 (by simpa using a) | rfl⟩
                · have hcv := conv_bytes (R2.out.below BW.out)
                  refine wpOp_step (o := ?os38) ?hos38 (fun K hK => ?_)
                  case hos38 => simp only [zge]; rfl
                  go_simp
                  refine hK _ _ ?_
                  clear hK K
                  try simp only [zpt]
                  exact ⟨_, _, _, _, _, _, _, rfl, BW, fun a => by first | exact h9 (by simpa using a) | rfl, fun _ => rfl, fun a => by first | exact h12 (by simpa using a) | rfl, fun a => by first | exact h13 (by simpa using a) | rfl, fun a => by first | exact h14 (by simpa using a) | rfl, fun a => by first | exact h15 (by simpa using a) | rfl, fun a => by first | exact h16 (by simpa using a) | rfl⟩
                · obtain rfl := h9 (hdeps 9 (by simp))
                  obtain rfl := h11 (hdeps 11 (by simp))
                  refine wpOp_step (o := ?os39) ?hos39 (fun K hK => ?_)
                  case hos39 => simp only [zge]; rfl
                  go_simp
                  refine hK _ _ ?_
                  clear hK K
                  try simp only [zpt]
                  exact ⟨_, _, _, _, _, _, _, rfl, BW, fun a => by first | exact h9 (by simpa using a) | rfl, fun a => by first | exact h11 (by simpa using a) | rfl, fun _ => rfl, fun a => by first | exact h13 (by simpa using a) | rfl, fun a => by first | exact h14 (by simpa using a) | rfl, fun a => by first | exact h15 (by simpa using a) | rfl, fun a => by first | exact h16 (by simpa using a) | rfl⟩
                · refine wpOp_step (o := ?os40) ?hos40 (fun K hK => ?_)
                  case hos40 => simp only [zge]; rfl
                  refine step_loadW rfl 23 (.tmp 3) rfl w.heap.size 0 rfl RA _ Tryz.underlying23 rfl IRA.out (KA.out.below BW.out KA.out.lt).cells (hK _ _ ?_)
                  clear hK K
                  try simp only [zpt]
                  exact ⟨_, _, _, _, _, _, _, rfl, BW, fun a => by first | exact h9 (by simpa using a) | rfl, fun a => by first | exact h11 (by simpa using a) | rfl, fun a => by first | exact h12 (by simpa using a) | rfl, fun _ => rfl, fun a => by first | exact h14 (by simpa using a) | rfl, fun a => by first | exact h15 (by simpa using a) | rfl, fun a => by first | exact h16 (by simpa using a) | rfl⟩
                · refine wpOp_step (o := ?os41) ?hos41 (fun K hK => ?_)
                  case hos41 => simp only [zge]; rfl
                  refine step_loadW rfl 23 (.tmp 4) rfl (w.heap.size + 1) 0 rfl RB _ Tryz.underlying23 rfl IRB.out (KB.out.below BW.out KB.out.lt).cells (hK _ _ ?_)
                  clear hK K
                  try simp only [zpt]
                  exact ⟨_, _, _, _, _, _, _, rfl, BW, fun a => by first | exact h9 (by simpa using a) | rfl, fun a => by first | exact h11 (by simpa using a) | rfl, fun a => by first | exact h12 (by simpa using a) | rfl, fun a => by first | exact h13 (by simpa using a) | rfl, fun _ => rfl, fun a => by first | exact h15 (by simpa using a) | rfl, fun a => by first | exact h16 (by simpa using a) | rfl⟩
                · obtain rfl := h13 (hdeps 13 (by simp))
                  obtain rfl := h14 (hdeps 14 (by simp))
                  refine wpOp_step (o := ?os42) ?hos42 (fun K hK => ?_)
                  case hos42 => simp only [zge]; rfl
                  go_simp
                  refine hK _ _ ?_
                  clear hK K
                  try simp only [zpt]
                  exact ⟨_, _, _, _, _, _, _, rfl, BW, fun a => by first | exact h9 (by simpa using a) | rfl, fun a => by first | exact h11 (by simpa using a) | rfl, fun a => by first | exact h12 (by simpa using a) | rfl, fun a => by first | exact h13 (by simpa using a) | rfl, fun a => by first | exact h14 (by simpa using a) | rfl, fun _ => rfl, fun a => by first | exact h16 (by simpa using a) | rfl⟩
                · obtain rfl := h12 (hdeps 12 (by simp))
                  obtain rfl := h15 (hdeps 15 (by simp))
                  refine wpOp_step (o := ?os43) ?hos43 (fun K hK => ?_)
                  case hos43 => simp only [zge]; rfl
                  go_simp
                  refine hK _ _ ?_
                  clear hK K
                  try simp only [zpt]
                  exact ⟨_, _, _, _, _, _, _, rfl, BW, fun a => by first | exact h9 (by simpa using a) | rfl, fun a => by first | exact h11 (by simpa using a) | rfl, fun a => by first | exact h12 (by simpa using a) | rfl, fun a => by first | exact h13 (by simpa using a) | rfl, fun a => by first | exact h14 (by simpa using a) | rfl, fun a => by first | exact h15 (by simpa using a) | rfl, fun _ => rfl⟩
              case fin36 =>
                intro a v36 hI
                obtain ⟨x86, x88, x89, x90, x91, x92, x93, rfl, BW, h9, h11, h12, h13, h14, h15, h16⟩ := hI
                obtain rfl := h9 (by decide)
                obtain rfl := h11 (by decide)
                obtain rfl := h12 (by decide)
                obtain rfl := h13 (by decide)
                obtain rfl := h14 (by decide)
                obtain rfl := h15 (by decide)
                obtain rfl := h16 (by decide)
                replace Wa := Lib.hid (Wa.out.trans (BW.out.mono Wa.out.size))
                clear BW R1 R2 KA KB
                try dsimp only
                refine wpAny_take (i := 17) (oi := ?oi44) (v := .bool true) ?hi44 (by kernel_rfl) (by kernel_rfl) (by kernel_rfl) ?hQ44 ?hy44 ?rest44
                case hi44 => simp only [zge]; rfl
                case hQ44 => exact fun _ _ _ h => h
                case hy44 => exact Or.inl ⟨by rfl, by intro w; go_simp⟩
                try simp only [zpt]
                refine wpAny_take (i := 18) (oi := ?oi45) (v := .bool true) ?hi45 (by kernel_rfl) (by kernel_rfl) (by kernel_rfl) ?hQ45 ?hy45 ?rest45
                case hi45 => simp only [zge]; rfl
                case hQ45 => exact fun _ _ _ h => h
                case hy45 => exact Or.inl ⟨by rfl, by intro w; go_simp⟩
                try simp only [zpt]
                refine wpAny_done (by kernel_rfl) ?_ _
                go_wp2_with fail
                go_ret
                exact ⟨rfl, Wa.out⟩
          · obtain rfl : eb = 1 := by rw [HEB.out]; simp [h2]
            go_wp2_with fail
            go_ret
            exact ⟨rfl, W8.out⟩
        · obtain rfl : ea = 1 := by rw [HEA.out]; simp [h1]
          go_wp2_with fail
          go_ret
          exact ⟨rfl, W8.out⟩
end Go.Proofs.YtnfbkimkdnbohaaGreatDoor.recAll
