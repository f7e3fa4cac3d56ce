import Derived.Test.YtijncclcdkgaoaaDoorSKf
import Derived.Test.YtijncclcdkgaoaaDoorSKeyed
namespace Go.Proofs.YtijncclcdkgaoaaDoor
set_option linter.unusedVariables false
set_option linter.unusedSimpArgs false
set_option maxRecDepth 100000
open Go.RowKit
theorem copy_part {w : World} {g off cp : Nat} {t : TypeId} {a b c : List Value} {A : Option Addr} {l : List UInt8} (hb : Blk w g t (a ++ b ++ c)) (hr : Rd w A 32 cp l) (ha : a.length = off) (hbl : b.length = 32) :
    ∃ W', (Builtin.copy_ #[22, 22] 3 #[.slice (some ⟨g, off, none⟩) 32 32, .slice A 32 cp]).run Tryd.prog w = .ok (.int .i64 32) W' ∧ Blk W' g t (a ++ l.map cellOf ++ c) ∧ w.grownBy W' (some g) := by
  obtain ⟨W', h1, h2, h3⟩ := copy_into (off := off) (dLen := 32) (dCap := 32) hb hr (by simp; omega)
  rw [Nat.min_self, show (a ++ b ++ c).take off = a by rw [List.append_assoc, List.take_left' ha], show l.take 32 = l from List.take_of_length_le (by rw [hr.len]; exact Nat.le_refl _), show (a ++ b ++ c).drop (off + 32) = c from List.drop_left' (by simp; omega)] at h2
  exact ⟨W', h1, h2, h3⟩
theorem step_full {ops : Array Oper} {o : Oper} {a : Act} {K : Act → World → Prop} {Q : Exit → Act → World → Prop} {E : Prop} {wr : World} (hgd : Region.wanted o (yielded ops a.tmps) = true) (s x : Operand)
    (ho : o.op = .call { callee := .builtin .append, args := #[s, x], argTypes := #[22, 22] }) {b ad : Addr} {n m c : Nat} {l news : List UInt8} (hs : a.eval s = .slice (some b) n n) (hx : a.eval x = .slice (some ad) m c) (h1 : Rd wr (some b) n n l) (h2 : Rd wr (some ad) m c news) (h0 : 0 < n) (hm : 0 < m) (hlen : n + m ≤ 1000000)
    (h : ∀ c' w', Rd w' (some ⟨wr.heap.size, 0, none⟩) (n + m) c' (l ++ news) → Below wr.heap.size wr w' → K (a.put o.dst (.slice (some ⟨wr.heap.size, 0, none⟩) (n + m) c')) w') : if Region.wanted o (yielded ops a.tmps) = true then o.wp Tryd.prog a wr K Q else E := by
  rw [if_pos hgd]
  obtain ⟨c', w', hrun, h3, h4⟩ := run_full o.type h1 h2 h0 hm hlen
  unfold Oper.wp execOp
  simp only [ho, resolve, invoke, builtin, Sem.run_bind, Sem.run_pure, Result.andThen_ok, List.map_toArray, List.map_cons, List.map_nil, hs, hx, hrun]
  exact h c' w' h3 h4
set_option maxRecDepth 100000 in
set_option maxHeartbeats 8000000 in
theorem rkeys_any {w : World} {A : Option Addr} {n c : Nat} {s : List UInt8} (ep : Int) (hr : Rd w A n c s) (hn : n ≤ 1000000) (h1 : -9223372036854775808 ≤ ep) (h2 : ep ≤ 9223372036854775807) :
    Calls Tryd.prog 15 #[.slice A n c, .int .i64 ep] w (RetH w (Rc.keysOf s ep)) := by
  have HR := Lib.hid hr
  clear hr
  have hcv := conv23
  have hcva := conv23a
  obtain ⟨SA, hSA⟩ : ∃ l : List UInt8, l = [105, 110, 100, 101, 110, 116, 117, 114, 101] := ⟨_, rfl⟩
  obtain ⟨le, hle⟩ : ∃ l : List UInt8, l = Num.enc (Num.zig ep) := ⟨_, rfl⟩
  obtain ⟨me, hme⟩ : ∃ m, le.length = m := ⟨_, rfl⟩
  have hme0 : 0 < me ∧ me ≤ 10 := by have := Num.enc_len10 (Num.zig_lt ep h1 h2); have := Num.enc_pos (Num.zig ep); rw [← hme, hle]; omega
  have LME := Lib.hid hme
  obtain ⟨k1, hk1⟩ : ∃ c, c = (Rc.sealKey s ep).map cellOf := ⟨_, rfl⟩
  obtain ⟨k2, hk2⟩ : ∃ c, c = (Rc.markKey s).map cellOf := ⟨_, rfl⟩
  obtain ⟨k3, hk3⟩ : ∃ c, c = (Rc.labelKey s).map cellOf := ⟨_, rfl⟩
  obtain ⟨z1, hz1⟩ : ∃ z, z = List.replicate 32 (Value.int .u8 0) := ⟨_, rfl⟩
  have LZ1 : Hid (z1.length = 32) := by unfold Hid; rw [hz1]; rfl
  have L1 : Hid (k1.length = 32) := by unfold Hid; rw [hk1, List.length_map, Rc.sealKey_length]
  have L2 : Hid (k2.length = 32) := by unfold Hid; rw [hk2, List.length_map, Rc.markKey_length]
  have L3 : Hid (k3.length = 32) := by unfold Hid; rw [hk3, List.length_map, Rc.labelKey_length]
  obtain ⟨kk, hkk⟩ : ∃ c, c = k1 ++ k2 ++ k3 := ⟨_, rfl⟩
  have hkk2 : kk = (Rc.keysOf s ep).map cellOf := by rw [hkk, hk1, hk2, hk3, ← List.map_append, ← List.map_append]; rfl
  obtain ⟨Z9, hZ9⟩ : ∃ z, z = z1 ++ z1 ++ z1 := ⟨_, rfl⟩
  have HZ9 := Lib.hid hZ9
  have ZC : Hid (Tryd.zeroCells30 = Z9.toArray) := by unfold Hid; rw [hZ9, hz1]; kernel_rfl
  have hkl : kk.length = 96 := by rw [hkk2, List.length_map]; simp [Rc.keysOf, Rc.sealKey_length, Rc.markKey_length, Rc.labelKey_length]
  have IKK : Hid ((Tryd.prog.info? 30).map (·.size) = some kk.length) := by unfold Hid; rw [hkl]; kernel_rfl
  have LKK : Hid (Z9.length = kk.length) := by unfold Hid; rw [hkl, hZ9, hz1]; rfl
  have OKK : Hid (∀ v ∈ kk, v.oneCell' = true) := by unfold Hid; rw [hkk2]; exact cells_u8 _
  have HKK := Lib.hid hkk2
  have HKJ := Lib.hid hkk
  obtain ⟨D, hD⟩ : ∃ D, D = (Rc.root s).map cellOf := ⟨_, rfl⟩
  have hrl : (Rc.root s).length = 32 := Sha.hmac_length _ _
  have hDl : D.length = 32 := by rw [hD, List.length_map, hrl]
  have ID : Hid ((Tryd.prog.info? 26).map (·.size) = some D.length) := by unfold Hid; rw [hDl]; kernel_rfl
  have LD : Hid ((List.replicate 32 (Value.int .u8 0)).length = D.length) := by unfold Hid; rw [hDl]; rfl
  have OD : Hid (∀ v ∈ D, v.oneCell' = true) := by unfold Hid; rw [hD]; exact cells_u8 _
  obtain ⟨rt, hrt⟩ : ∃ r, r = Rc.root s := ⟨_, rfl⟩
  have HD : Hid (D = rt.map cellOf) := by unfold Hid; rw [hD, hrt]
  have LRT : Hid (rt.length = 32) := by unfold Hid; rw [hrt]; exact hrl
  have CX : Hid (∀ (W : World) (A A' : Option Addr) (c c' : Nat), Rd W A 9 c SA → Rd W A' n c' s → Calls Tryd.prog 35 #[.slice A 9 c, .slice A' n c'] W fun e w' => e = .returned (.agg D.toArray) ∧ Below W.heap.size W w') := fun W A A' c c' ha hb => by
    refine (rextract_any ha (by omega) hb (by omega)).mono ?_
    rintro e w' ⟨E, rfl, hM, hX⟩
    have e1 : E = D := by rw [hM, hD, hSA]; rfl
    rw [e1]
    exact ⟨rfl, hX⟩
  obtain ⟨x1, hx1⟩ : ∃ c, c = Rc.sealKey s ep := ⟨_, rfl⟩
  obtain ⟨x2, hx2⟩ : ∃ c, c = Rc.markKey s := ⟨_, rfl⟩
  obtain ⟨x3, hx3⟩ : ∃ c, c = Rc.labelKey s := ⟨_, rfl⟩
  have K1 : Hid (x1.map cellOf = k1) := by unfold Hid; rw [hx1, hk1]
  have K2 : Hid (x2.map cellOf = k2) := by unfold Hid; rw [hx2, hk2]
  have K3 : Hid (x3.map cellOf = k3) := by unfold Hid; rw [hx3, hk3]
  have CE : ∀ (info k : List UInt8), k = Sha.expand (Rc.root s) info 32 → ∀ (W : World) (A A' : Option Addr) (n c : Nat), Rd W A' 32 32 rt → Rd W A n c info → n ≤ 1000 → Calls Tryd.prog 36 #[.slice A' 32 32, .slice A n c, .int .i64 32] W fun e w' => ∃ A2 c2, e = .returned (.slice A2 32 c2) ∧ Rd w' A2 32 c2 k ∧ Below W.heap.size W w' := fun info k hk W A A' n c hr ha hn => by
    rw [hk, ← hrt]
    exact rexpand_any hr (by omega) ha (by omega) 32 (by omega) (by omega)
  have CE1 := Lib.hid (CE ([115, 101, 97, 108] ++ le) x1 (by rw [hx1, hle]; rfl))
  have CE2 := Lib.hid (CE [109, 97, 114, 107] x2 hx2)
  have CE3 := Lib.hid (CE [108, 97, 98, 101, 108] x3 hx3)
  have CRP : Hid (∀ W : World, Calls Tryd.prog 37 #[.int .i64 ep] W fun e w' => ∃ v', e = .returned v' ∧ Ow w' W.heap.size v' le ∧ Below W.heap.size W w') := fun W => by
    rw [hle]
    exact rput_any ep W h1 h2
  have HSA := Lib.hid hSA
  clear hSA hle hme hk1 hk2 hk3 hkk hkk2 hZ9 hz1 hkl hD hDl hrl hrt hx1 hx2 hx3 CE
  go_enter Tryd.func15, Tryd.ntmps15
  go_wp2_with fail
  obtain ⟨w1, hw1⟩ : ∃ x, x = (w.alloc (.cells Tryd.zeroCells30 30)).alloc (.cells #[.int .u8 105, .int .u8 110, .int .u8 100, .int .u8 101, .int .u8 110, .int .u8 116, .int .u8 117, .int .u8 114, .int .u8 101] 5 (9, 10)) := ⟨_, rfl⟩
  have R1 : Rd w1 (some ⟨w.heap.size + 1, 0, none⟩) 9 9 SA := by rw [hw1, HSA.out]; exact lit_bytesF _ _ _ 9 _ _ (by rfl) rfl (by omega) (by simp)
  have W1 : Below w.heap.size w w1 := by rw [hw1]; exact ((Below.refl _ _).alloc (Nat.le_refl _) _).alloc (by simp) _
  have Z1 : Blk w1 w.heap.size 30 Z9 := by rw [hw1]; exact (Blk.at_new _ _ 30 _ _ ZC.out rfl).alloc _
  rw [← hw1]
  refine (CX.out w1 _ _ _ _ R1 (HR.out.below W1)).mono ?_
  rintro e w2 ⟨rfl, hX⟩
  have hs2 := hX.size
  have hs1 : w.heap.size < w1.heap.size := Z1.lt
  have W2 := Lib.hid (W1.trans (hX.mono W1.size))
  have Z2 := Lib.hid (Z1.below hX hs1)
  clear hw1 R1 W1 Z1 hX hcv hcva CX HSA HR
  go_upto_region 2 with (first
    | ((with_reducible refine storeGen_law rfl 26 (.tmp 5) (.tmp 10) rfl w2.heap.size rfl D rfl 26 (List.replicate 32 (.int .u8 0)) ID.out LD.out OD.out w2.heap.size w2 ?_ ?_ (Nat.le_refl _) ?_)
       · exact Blk.at_new _ _ 26 _ _ (by rfl) rfl
       · exact (Below.refl _ _).alloc (Nat.le_refl _) _
       intro w3 B3 X3))
  obtain ⟨gr, hgr⟩ : ∃ g, g = w2.heap.size := ⟨_, rfl⟩
  rw [← hgr] at B3
  rw [← hgr]
  have hgr6 : w2.heap.size ≤ gr := by omega
  clear hgr
  have hs3 := X3.out.size
  have W3 := Lib.hid (W2.out.trans (X3.out.mono W2.out.size))
  have Z3 := Lib.hid (Z2.out.below X3.out Z2.out.lt)
  have KB := Lib.hid B3.out
  have hgr7 := KB.out.lt
  clear X3 B3 W2 Z2
  go_upto_region 3 with (fail)
  obtain ⟨g6, hg6⟩ : ∃ g, g = w3.heap.size := ⟨_, rfl⟩
  obtain ⟨w4, hw4⟩ : ∃ x, x = w3.alloc (.cells Tryd.zeroCells30 30) := ⟨_, rfl⟩
  have G6 : Hid (Blk w4 g6 30 ([] ++ z1 ++ (z1 ++ z1))) := by unfold Hid; rw [hw4]; exact Blk.at_new _ _ 30 _ _ (by rw [ZC.out, HZ9.out]; simp) hg6
  have X4 : Below w3.heap.size w3 w4 := by rw [hw4]; exact alloc_below _ _
  rw [← hg6, ← hw4]
  have W4 := Lib.hid (W3.out.trans (X4.mono W3.out.size))
  have Z4 := Lib.hid (Z3.out.below X4 Z3.out.lt)
  have K4 := Lib.hid (KB.out.below X4 KB.out.lt)
  have hne : gr ≠ g6 := by omega
  have hne2 : w.heap.size < g6 := by have := Z3.out.lt; omega
  clear hw4 X4 W3 Z3 KB hg6
  have W5 := Lib.hid W4.out.drew
  have Z5 := Lib.hid Z4.out.drew
  have K5 := Lib.hid K4.out.drew
  have G5 := Lib.hid G6.out.drew
  clear W4 Z4 K4 G6
  refine wp_region_any (by kernel_rfl) ?_
  change wpAny _ _ _ _ _ _ _ (World.drew _)
  generalize w4.drew = w5 at *
  refine wpAny_take (i := 0) (oi := ?oi1) (v := .pointer (some ⟨g6, 0, none⟩)) ?hi1 (by kernel_rfl) (by kernel_rfl) (by kernel_rfl) ?hQ1 ?hy1 ?rest1
  case hi1 => simp only [zge]; rfl
  case hQ1 => exact fun _ _ _ h => h
  case hy1 => exact Or.inl ⟨by rfl, by intro w; go_simp⟩
  try simp only [zpt]
  refine wpAny_take (i := 1) (oi := ?oi2) (v := .slice (some ⟨g6, 0, none⟩) 32 32) ?hi2 (by kernel_rfl) (by kernel_rfl) (by kernel_rfl) ?hQ2 ?hy2 ?rest2
  case hi2 => simp only [zge]; rfl
  case hQ2 => exact fun _ _ _ h => h
  case hy2 => exact Or.inl ⟨by rfl, by intro w; go_simp⟩
  try simp only [zpt]
  refine wpAny_take (i := 2) (oi := ?oi3) (v := .slice (some ⟨gr, 0, none⟩) 32 32) ?hi3 (by kernel_rfl) (by kernel_rfl) (by kernel_rfl) ?hQ3 ?hy3 ?rest3
  case hi3 => simp only [zge]; rfl
  case hQ3 => exact fun _ _ _ h => h
  case hy3 => exact Or.inl ⟨by rfl, by intro w; go_simp⟩
  try simp only [zpt]
  refine wpAny_take (i := 5) (oi := ?oi4) (v := .int .i64 ep) ?hi4 (by kernel_rfl) (by kernel_rfl) (by kernel_rfl) ?hQ4 ?hy4 ?rest4
  case hi4 => simp only [zge]; rfl
  case hQ4 => exact fun _ _ _ h => h
  case hy4 => exact Or.inl ⟨by rfl, by intro w; go_simp⟩
  try simp only [zpt]
  refine phaseL (fun i => if i = 4 then [3] else []) (fun d a w' => ∃ x14 x15 x17 : Value, a = { tmps := #[.slice A n c, .int .i64 ep, undef, undef, .pointer (some ⟨w.heap.size, 0, none⟩), .pointer (some ⟨gr, 0, none⟩), .pointer (some ⟨g6, 0, none⟩), .slice (some ⟨w.heap.size + 1, 0, none⟩) 9 9, .slice (some ⟨w.heap.size + 1, 0, none⟩) 9 9, .slice A n c, .agg D.toArray, .pointer (some ⟨g6, 0, none⟩), .slice (some ⟨g6, 0, none⟩) 32 32, .slice (some ⟨gr, 0, none⟩) 32 32, x14, x15, .int .i64 ep, x17, undef, undef, undef, undef, undef, undef, undef, undef, undef, undef, undef, undef, undef, undef, undef, undef, undef, undef], defers := [] } ∧ Hid (Below w5.heap.size w5 w') ∧ (d 3 = true → Hid (Lt w' w5.heap.size x14 [115, 101, 97, 108])) ∧ (d 4 = true → Hid (Lt w' w5.heap.size x15 [115, 101, 97, 108])) ∧ (d 6 = true → Hid (Nw w' w5.heap.size x17 le))) [3, 4, 6] ?step5 3 3 [3, 4, 6] _ _ _ rfl (by decide) (fun _ h => h) (Fits.of (by kernel_rfl)) ?init5 ?fin5
  case init5 => refine ⟨_, _, _, rfl, Below.refl _ _, ?_, ?_, ?_⟩ <;> (intro h; exact absurd h (by decide))
  case step5 =>
    intro i hi d a v5 hI hdi hdeps
    obtain ⟨x14, x15, x17, rfl, BW, h3, h4, h6⟩ := hI
    have hsw := BW.out.size
    simp only [List.mem_cons, List.not_mem_nil, or_false] at hi
    rcases hi with rfl | rfl | rfl
    · have hX := alloc_below v5 (.cells #[.int .u8 115, .int .u8 101, .int .u8 97, .int .u8 108] 5)
      refine wpOp_step (o := ?os6) ?hos6 (fun K hK => ?_)
      case hos6 => simp only [zge]; rfl
      go_simp
      refine hK _ _ ?_
      clear hK K
      try simp only [zpt]
      exact ⟨_, _, _, rfl, BW.out.trans (hX.mono hsw), fun _ => Lt.new _ _ _ _ _ (by rfl) rfl hsw, fun a => (h4 (by simpa using a)).out.below hX, fun a => (h6 (by simpa using a)).out.below hX⟩
    · have hL := h3 (hdeps 3 (by simp))
      obtain ⟨u5, hcv, hF, hBz⟩ := conv_mark hL.out
      refine wpOp_step (o := ?os7) ?hos7 (fun K hK => ?_)
      case hos7 => simp only [zge]; rfl
      go_simp
      refine hK _ _ ?_
      clear hK K
      try simp only [zpt]
      exact ⟨_, _, _, rfl, hBz _ BW.out, fun a => (h3 (by simpa using a)).out.fz hF, fun _ => hL.out.fz hF, fun a => (h6 (by simpa using a)).out.fz hF⟩
    · refine wpOp_step (o := ?os8) ?hos8 (fun K hK => ?_)
      case hos8 => simp only [zge]; rfl
      go_simp
      refine (CRP.out v5).mono ?_
      rintro e u5 ⟨v17, rfl, hO, hX⟩
      refine hK _ _ ?_
      clear hK K
      try simp only [zpt]
      exact ⟨_, _, _, rfl, BW.out.trans (hX.mono hsw), fun a => (h3 (by simpa using a)).out.below hX, fun a => (h4 (by simpa using a)).out.below hX, fun _ => Nw.ofOw hO hsw⟩
  case fin5 =>
    intro a v5 hI
    obtain ⟨x14, x15, x17, rfl, BW, h3, h4, h6⟩ := hI
    obtain ⟨gl3, rfl, _, _, _⟩ := (h3 (by decide)).out.rd (k := 4) rfl (by omega)
    obtain ⟨gm3, rfl, _, _, hRl⟩ := (h4 (by decide)).out.rd (k := 4) rfl (by omega)
    obtain ⟨A17, c17, rfl, hR17, _⟩ := (h6 (by decide)).out.rd LME.out
    replace W5 := Lib.hid (W5.out.trans (BW.out.mono W5.out.size))
    replace Z5 := Lib.hid (Z5.out.below BW.out Z5.out.lt)
    replace K5 := Lib.hid (K5.out.below BW.out K5.out.lt)
    replace G5 := Lib.hid (G5.out.below BW.out G5.out.lt)
    have RL := Lib.hid hRl
    have R17 := Lib.hid hR17
    clear h3 h4 hRl BW h6 hR17 CRP
    try dsimp only
    obtain ⟨b17, o17, rfl, _, _⟩ := R17.out.at_ hme0.1
    refine wpAny_ready (rs := [7]) (by kernel_rfl) (by simp) ?_
    refine AllReady.cons (o := ?p9) ?q9 (fun K hK => ?_) AllReady.nil
    case q9 => simp only [zge]; rfl
    refine step_full rfl (.tmp 15) (.tmp 17) rfl rfl rfl RL.out R17.out (by omega) hme0.1 (by omega) ?_
    intro c18 w18 hR18 hX
    replace W5 := Lib.hid (W5.out.trans (hX.mono W5.out.size))
    replace Z5 := Lib.hid (Z5.out.below hX Z5.out.lt)
    replace K5 := Lib.hid (K5.out.below hX K5.out.lt)
    replace G5 := Lib.hid (G5.out.below hX G5.out.lt)
    replace RL := Lib.hid hR18
    clear hR18 hX R17
    refine hK _ _ ?_
    clear hK K
    try simp only [zpt]
    refine wpAny_ready (rs := [8]) (by kernel_rfl) (by simp) ?_
    refine AllReady.cons (o := ?p10) ?q10 (fun K hK => ?_) AllReady.nil
    case q10 => simp only [zge]; rfl
    go_simp
    refine (CE1.out w18 _ _ _ _ (by have := K5.out; rw [HD.out] at this; exact blk_rd32 this LRT.out) RL.out (by omega)).mono ?_
    rintro e w6a ⟨A23, c23, rfl, hR, hX⟩
    replace W5 := Lib.hid (W5.out.trans (hX.mono W5.out.size))
    replace Z5 := Lib.hid (Z5.out.below hX Z5.out.lt)
    replace K5 := Lib.hid (K5.out.below hX K5.out.lt)
    replace G5 := Lib.hid (G5.out.below hX G5.out.lt)
    obtain ⟨w6, hcopy, hB, hO⟩ := copy_part (off := 0) G5.out hR rfl LZ1.out
    rw [K1.out] at hB
    have W4 := Lib.hid (below_of_only W5.out hO (by omega) W5.out.size)
    have Z4 : Hid (Blk w6 w.heap.size 30 Z9) := (hO.block _ Z5.out.lt (by simp; omega)).trans Z5.out
    have K4 : Hid (Blk w6 gr 26 D) := (hO.block _ K5.out.lt (by simp; omega)).trans K5.out
    have G6 : Hid (Blk w6 g6 30 (k1 ++ z1 ++ z1)) := by unfold Hid; rw [show k1 ++ z1 ++ z1 = [] ++ k1 ++ (z1 ++ z1) by simp]; exact hB
    clear hR hX hO hB W5 Z5 K5 G5 RL CE1
    refine hK _ _ ?_
    clear hK K
    try simp only [zpt]
    refine wpAny_ready (rs := [9]) (by kernel_rfl) (by simp) ?_
    refine AllReady.cons (o := ?p11) ?q11 (fun K hK => ?_) AllReady.nil
    case q11 => simp only [zge]; rfl
    go_simp
    clear hcopy
    refine hK _ _ ?_
    clear hK K
    try simp only [zpt]
    refine wpAny_done (by kernel_rfl) ?_ _
    go_upto_region 4 with (fail)
    have W5 := Lib.hid W4.out.drew
    have Z5 := Lib.hid Z4.out.drew
    have K5 := Lib.hid K4.out.drew
    have G5 := Lib.hid G6.out.drew
    clear W4 Z4 K4 G6
    refine wp_region_any (by kernel_rfl) ?_
    change wpAny _ _ _ _ _ _ _ (World.drew _)
    generalize w6.drew = w7 at *
    refine wpAny_take (i := 0) (oi := ?oi12) (v := .pointer (some ⟨g6, 32, none⟩)) ?hi12 (by kernel_rfl) (by kernel_rfl) (by kernel_rfl) ?hQ12 ?hy12 ?rest12
    case hi12 => simp only [zge]; rfl
    case hQ12 => exact fun _ _ _ h => h
    case hy12 => exact Or.inl ⟨by rfl, by intro w; go_simp⟩
    try simp only [zpt]
    refine wpAny_take (i := 1) (oi := ?oi13) (v := .slice (some ⟨g6, 32, none⟩) 32 32) ?hi13 (by kernel_rfl) (by kernel_rfl) (by kernel_rfl) ?hQ13 ?hy13 ?rest13
    case hi13 => simp only [zge]; rfl
    case hQ13 => exact fun _ _ _ h => h
    case hy13 => exact Or.inl ⟨by rfl, by intro w; go_simp⟩
    try simp only [zpt]
    refine wpAny_take (i := 2) (oi := ?oi14) (v := .slice (some ⟨gr, 0, none⟩) 32 32) ?hi14 (by kernel_rfl) (by kernel_rfl) (by kernel_rfl) ?hQ14 ?hy14 ?rest14
    case hi14 => simp only [zge]; rfl
    case hQ14 => exact fun _ _ _ h => h
    case hy14 => exact Or.inl ⟨by rfl, by intro w; go_simp⟩
    try simp only [zpt]
    refine phaseL (fun i => if i = 4 then [3] else []) (fun d a w' => ∃ x24 x25 : Value, a = { tmps := #[.slice A n c, .int .i64 ep, undef, undef, .pointer (some ⟨w.heap.size, 0, none⟩), .pointer (some ⟨gr, 0, none⟩), .pointer (some ⟨g6, 0, none⟩), .slice (some ⟨w.heap.size + 1, 0, none⟩) 9 9, .slice (some ⟨w.heap.size + 1, 0, none⟩) 9 9, .slice A n c, .agg D.toArray, .pointer (some ⟨g6, 0, none⟩), .slice (some ⟨g6, 0, none⟩) 32 32, .slice (some ⟨gr, 0, none⟩) 32 32, .slice (some ⟨gl3, 0, none⟩) 4 4, .slice (some ⟨gm3, 0, none⟩) 4 4, .int .i64 ep, .slice (some ⟨b17, o17, none⟩) me c17, .slice (some ⟨v5.heap.size, 0, none⟩) (4 + me) c18, .slice A23 32 c23, .int .i64 32, .pointer (some ⟨g6, 32, none⟩), .slice (some ⟨g6, 32, none⟩) 32 32, .slice (some ⟨gr, 0, none⟩) 32 32, x24, x25, undef, undef, undef, undef, undef, undef, undef, undef, undef, undef], defers := [] } ∧ Hid (Below w7.heap.size w7 w') ∧ (d 3 = true → Hid (Lt w' w7.heap.size x24 [109, 97, 114, 107])) ∧ (d 4 = true → Hid (Lt w' w7.heap.size x25 [109, 97, 114, 107]))) [3, 4] ?step15 2 2 [3, 4] _ _ _ rfl (by decide) (fun _ h => h) (Fits.of (by kernel_rfl)) ?init15 ?fin15
    case init15 => refine ⟨_, _, rfl, Below.refl _ _, ?_, ?_⟩ <;> (intro h; exact absurd h (by decide))
    case step15 =>
      intro i hi d a v15 hI hdi hdeps
      obtain ⟨x24, x25, rfl, BW, h3, h4⟩ := hI
      have hsw := BW.out.size
      simp only [List.mem_cons, List.not_mem_nil, or_false] at hi
      rcases hi with rfl | rfl
      · have hX := alloc_below v15 (.cells #[.int .u8 109, .int .u8 97, .int .u8 114, .int .u8 107] 5)
        refine wpOp_step (o := ?os16) ?hos16 (fun K hK => ?_)
        case hos16 => simp only [zge]; rfl
        go_simp
        refine hK _ _ ?_
        clear hK K
        try simp only [zpt]
        exact ⟨_, _, rfl, BW.out.trans (hX.mono hsw), fun _ => Lt.new _ _ _ _ _ (by rfl) rfl hsw, fun a => (h4 (by simpa using a)).out.below hX⟩
      · have hL := h3 (hdeps 3 (by simp))
        obtain ⟨u15, hcv, hF, hBz⟩ := conv_mark hL.out
        refine wpOp_step (o := ?os17) ?hos17 (fun K hK => ?_)
        case hos17 => simp only [zge]; rfl
        go_simp
        refine hK _ _ ?_
        clear hK K
        try simp only [zpt]
        exact ⟨_, _, rfl, hBz _ BW.out, fun a => (h3 (by simpa using a)).out.fz hF, fun _ => hL.out.fz hF⟩
    case fin15 =>
      intro a v15 hI
      obtain ⟨x24, x25, rfl, BW, h3, h4⟩ := hI
      obtain ⟨gl4, rfl, _, _, _⟩ := (h3 (by decide)).out.rd (k := 4) rfl (by omega)
      obtain ⟨gm4, rfl, _, _, hRl⟩ := (h4 (by decide)).out.rd (k := 4) rfl (by omega)
      replace W5 := Lib.hid (W5.out.trans (BW.out.mono W5.out.size))
      replace Z5 := Lib.hid (Z5.out.below BW.out Z5.out.lt)
      replace K5 := Lib.hid (K5.out.below BW.out K5.out.lt)
      replace G5 := Lib.hid (G5.out.below BW.out G5.out.lt)
      have RL := Lib.hid hRl
      clear h3 h4 hRl BW
      try dsimp only
      refine wpAny_ready (rs := [5]) (by kernel_rfl) (by simp) ?_
      refine AllReady.cons (o := ?p18) ?q18 (fun K hK => ?_) AllReady.nil
      case q18 => simp only [zge]; rfl
      go_simp
      refine (CE2.out v15 _ _ _ _ (by have := K5.out; rw [HD.out] at this; exact blk_rd32 this LRT.out) RL.out (by omega)).mono ?_
      rintro e w8a ⟨A24, c24, rfl, hR, hX⟩
      replace W5 := Lib.hid (W5.out.trans (hX.mono W5.out.size))
      replace Z5 := Lib.hid (Z5.out.below hX Z5.out.lt)
      replace K5 := Lib.hid (K5.out.below hX K5.out.lt)
      replace G5 := Lib.hid (G5.out.below hX G5.out.lt)
      obtain ⟨w8, hcopy, hB, hO⟩ := copy_part (off := 32) G5.out hR L1.out LZ1.out
      rw [K2.out] at hB
      have W4 := Lib.hid (below_of_only W5.out hO (by omega) W5.out.size)
      have Z4 : Hid (Blk w8 w.heap.size 30 Z9) := (hO.block _ Z5.out.lt (by simp; omega)).trans Z5.out
      have K4 : Hid (Blk w8 gr 26 D) := (hO.block _ K5.out.lt (by simp; omega)).trans K5.out
      have G6 : Hid (Blk w8 g6 30 (k1 ++ k2 ++ z1 ++ [])) := by unfold Hid; rw [show k1 ++ k2 ++ z1 ++ [] = k1 ++ k2 ++ z1 by simp]; exact hB
      clear hR hX hO hB W5 Z5 K5 G5 RL CE2
      refine hK _ _ ?_
      clear hK K
      try simp only [zpt]
      refine wpAny_ready (rs := [6]) (by kernel_rfl) (by simp) ?_
      refine AllReady.cons (o := ?p19) ?q19 (fun K hK => ?_) AllReady.nil
      case q19 => simp only [zge]; rfl
      go_simp
      clear hcopy
      refine hK _ _ ?_
      clear hK K
      try simp only [zpt]
      refine wpAny_done (by kernel_rfl) ?_ _
      go_upto_region 5 with (fail)
      have W5 := Lib.hid W4.out.drew
      have Z5 := Lib.hid Z4.out.drew
      have K5 := Lib.hid K4.out.drew
      have G5 := Lib.hid G6.out.drew
      clear W4 Z4 K4 G6
      refine wp_region_any (by kernel_rfl) ?_
      change wpAny _ _ _ _ _ _ _ (World.drew _)
      generalize w8.drew = w9 at *
      refine wpAny_take (i := 0) (oi := ?oi20) (v := .pointer (some ⟨g6, 64, none⟩)) ?hi20 (by kernel_rfl) (by kernel_rfl) (by kernel_rfl) ?hQ20 ?hy20 ?rest20
      case hi20 => simp only [zge]; rfl
      case hQ20 => exact fun _ _ _ h => h
      case hy20 => exact Or.inl ⟨by rfl, by intro w; go_simp⟩
      try simp only [zpt]
      refine wpAny_take (i := 1) (oi := ?oi21) (v := .slice (some ⟨g6, 64, none⟩) 32 32) ?hi21 (by kernel_rfl) (by kernel_rfl) (by kernel_rfl) ?hQ21 ?hy21 ?rest21
      case hi21 => simp only [zge]; rfl
      case hQ21 => exact fun _ _ _ h => h
      case hy21 => exact Or.inl ⟨by rfl, by intro w; go_simp⟩
      try simp only [zpt]
      refine wpAny_take (i := 2) (oi := ?oi22) (v := .slice (some ⟨gr, 0, none⟩) 32 32) ?hi22 (by kernel_rfl) (by kernel_rfl) (by kernel_rfl) ?hQ22 ?hy22 ?rest22
      case hi22 => simp only [zge]; rfl
      case hQ22 => exact fun _ _ _ h => h
      case hy22 => exact Or.inl ⟨by rfl, by intro w; go_simp⟩
      try simp only [zpt]
      refine phaseL (fun i => if i = 4 then [3] else []) (fun d a w' => ∃ x31 x32 : Value, a = { tmps := #[.slice A n c, .int .i64 ep, undef, undef, .pointer (some ⟨w.heap.size, 0, none⟩), .pointer (some ⟨gr, 0, none⟩), .pointer (some ⟨g6, 0, none⟩), .slice (some ⟨w.heap.size + 1, 0, none⟩) 9 9, .slice (some ⟨w.heap.size + 1, 0, none⟩) 9 9, .slice A n c, .agg D.toArray, .pointer (some ⟨g6, 0, none⟩), .slice (some ⟨g6, 0, none⟩) 32 32, .slice (some ⟨gr, 0, none⟩) 32 32, .slice (some ⟨gl3, 0, none⟩) 4 4, .slice (some ⟨gm3, 0, none⟩) 4 4, .int .i64 ep, .slice (some ⟨b17, o17, none⟩) me c17, .slice (some ⟨v5.heap.size, 0, none⟩) (4 + me) c18, .slice A23 32 c23, .int .i64 32, .pointer (some ⟨g6, 32, none⟩), .slice (some ⟨g6, 32, none⟩) 32 32, .slice (some ⟨gr, 0, none⟩) 32 32, .slice (some ⟨gl4, 0, none⟩) 4 4, .slice (some ⟨gm4, 0, none⟩) 4 4, .slice A24 32 c24, .int .i64 32, .pointer (some ⟨g6, 64, none⟩), .slice (some ⟨g6, 64, none⟩) 32 32, .slice (some ⟨gr, 0, none⟩) 32 32, x31, x32, undef, undef, undef], defers := [] } ∧ Hid (Below w9.heap.size w9 w') ∧ (d 3 = true → Hid (Lt w' w9.heap.size x31 [108, 97, 98, 101, 108])) ∧ (d 4 = true → Hid (Lt w' w9.heap.size x32 [108, 97, 98, 101, 108]))) [3, 4] ?step23 2 2 [3, 4] _ _ _ rfl (by decide) (fun _ h => h) (Fits.of (by kernel_rfl)) ?init23 ?fin23
      case init23 => refine ⟨_, _, rfl, Below.refl _ _, ?_, ?_⟩ <;> (intro h; exact absurd h (by decide))
      case step23 =>
        intro i hi d a v23 hI hdi hdeps
        obtain ⟨x31, x32, rfl, BW, h3, h4⟩ := hI
        have hsw := BW.out.size
        simp only [List.mem_cons, List.not_mem_nil, or_false] at hi
        rcases hi with rfl | rfl
        · have hX := alloc_below v23 (.cells #[.int .u8 108, .int .u8 97, .int .u8 98, .int .u8 101, .int .u8 108] 5)
          refine wpOp_step (o := ?os24) ?hos24 (fun K hK => ?_)
          case hos24 => simp only [zge]; rfl
          go_simp
          refine hK _ _ ?_
          clear hK K
          try simp only [zpt]
          exact ⟨_, _, rfl, BW.out.trans (hX.mono hsw), fun _ => Lt.new _ _ _ _ _ (by rfl) rfl hsw, fun a => (h4 (by simpa using a)).out.below hX⟩
        · have hL := h3 (hdeps 3 (by simp))
          obtain ⟨u23, hcv, hF, hBz⟩ := conv_mark hL.out
          refine wpOp_step (o := ?os25) ?hos25 (fun K hK => ?_)
          case hos25 => simp only [zge]; rfl
          go_simp
          refine hK _ _ ?_
          clear hK K
          try simp only [zpt]
          exact ⟨_, _, rfl, hBz _ BW.out, fun a => (h3 (by simpa using a)).out.fz hF, fun _ => hL.out.fz hF⟩
      case fin23 =>
        intro a v23 hI
        obtain ⟨x31, x32, rfl, BW, h3, h4⟩ := hI
        obtain ⟨gl5, rfl, _, _, _⟩ := (h3 (by decide)).out.rd (k := 5) rfl (by omega)
        obtain ⟨gm5, rfl, _, _, hRl⟩ := (h4 (by decide)).out.rd (k := 5) rfl (by omega)
        replace W5 := Lib.hid (W5.out.trans (BW.out.mono W5.out.size))
        replace Z5 := Lib.hid (Z5.out.below BW.out Z5.out.lt)
        replace K5 := Lib.hid (K5.out.below BW.out K5.out.lt)
        replace G5 := Lib.hid (G5.out.below BW.out G5.out.lt)
        have RL := Lib.hid hRl
        clear h3 h4 hRl BW
        try dsimp only
        refine wpAny_ready (rs := [5]) (by kernel_rfl) (by simp) ?_
        refine AllReady.cons (o := ?p26) ?q26 (fun K hK => ?_) AllReady.nil
        case q26 => simp only [zge]; rfl
        go_simp
        refine (CE3.out v23 _ _ _ _ (by have := K5.out; rw [HD.out] at this; exact blk_rd32 this LRT.out) RL.out (by omega)).mono ?_
        rintro e waa ⟨A25, c25, rfl, hR, hX⟩
        replace W5 := Lib.hid (W5.out.trans (hX.mono W5.out.size))
        replace Z5 := Lib.hid (Z5.out.below hX Z5.out.lt)
        replace K5 := Lib.hid (K5.out.below hX K5.out.lt)
        replace G5 := Lib.hid (G5.out.below hX G5.out.lt)
        obtain ⟨wa, hcopy, hB, hO⟩ := copy_part (off := 64) G5.out hR (by rw [List.length_append, L1.out, L2.out]) LZ1.out
        rw [K3.out] at hB
        have W4 := Lib.hid (below_of_only W5.out hO (by omega) W5.out.size)
        have Z4 : Hid (Blk wa w.heap.size 30 Z9) := (hO.block _ Z5.out.lt (by simp; omega)).trans Z5.out
        have K4 : Hid (Blk wa gr 26 D) := (hO.block _ K5.out.lt (by simp; omega)).trans K5.out
        have G6 : Hid (Blk wa g6 30 (k1 ++ k2 ++ k3)) := by unfold Hid; rw [show k1 ++ k2 ++ k3 = k1 ++ k2 ++ k3 ++ [] by simp]; exact hB
        clear hR hX hO hB W5 Z5 K5 G5 RL CE3
        refine hK _ _ ?_
        clear hK K
        try simp only [zpt]
        refine wpAny_ready (rs := [6]) (by kernel_rfl) (by simp) ?_
        refine AllReady.cons (o := ?p27) ?q27 (fun K hK => ?_) AllReady.nil
        case q27 => simp only [zge]; rfl
        go_simp
        clear hcopy
        refine hK _ _ ?_
        clear hK K
        try simp only [zpt]
        refine wpAny_done (by kernel_rfl) ?_ _
        have G7 : Hid (Blk wa g6 30 kk) := by unfold Hid; rw [HKJ.out]; exact G6.out
        go_wp2_with (first
          | (with_reducible refine load_law rfl 30 (.tmp 6) rfl g6 0 rfl kk _ Tryd.underlying30 rfl IKK.out G7.out.cells ?_)
          | ((with_reducible refine storeGen_law rfl 30 (.tmp 4) (.tmp 35) rfl w.heap.size rfl kk rfl 30 Z9 IKK.out LKK.out OKK.out w.heap.size w Z4.out W4.out (Nat.le_refl _) ?_); intro wb Bb Wb))
        exact bodyPost_ret (results_cell_row rfl _ _ w.heap.size 30 kk.toArray (0, 0) _ rfl Bb.out Tryd.underlying30 rfl (by rw [IKK.out]; simp)) rfl ⟨by rw [HKK.out], Wb.out⟩
end Go.Proofs.YtijncclcdkgaoaaDoor
