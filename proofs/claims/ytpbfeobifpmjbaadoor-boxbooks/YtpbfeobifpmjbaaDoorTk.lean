/- What the laws of layer 7 want of package tape; the beginning of those laws. -/
import Derived.Test.YtpbfeobifpmjbaaDoorTap
import Derived.Test.YtpbfeobifpmjbaaDoorGphase
namespace Go.Proofs.YtpbfeobifpmjbaaDoor
set_option linter.unusedVariables false
set_option linter.unusedSimpArgs false
set_option maxRecDepth 100000
open Go.RowKit

/-- What Next gives: new bytes; the tape goes on, nothing else is turned. -/
def RetN (Tp : World → Nat → Int → Nat → Prop) (Mm : World → Nat → Nat → Prop) (w : World) (g : Nat) (s : Int) (a n : Nat) (e : Ending) (w' : World) : Prop :=
  ∃ A c, e = .returned (.slice A n c) ∧ Rd w' A n c (Tap.tape s a n) ∧ Tp w' g s (a + n) ∧ w.grownBy w' (some g) ∧ (0 < n → ∀ ad, A = some ad → w.heap.size ≤ ad.block) ∧ ∀ b, Mm w' g b → Mm w g b ∨ w.heap.size ≤ b
/-- New, Next and Copy answer as the document says; 'Tp w g s a': at g lies a tape of seed s that stands at byte a; 'Mm w g b': block b is of its memory. -/
structure TapeOk (Tp : World → Nat → Int → Nat → Prop) (Mm : World → Nat → Nat → Prop) : Prop where
  lt : ∀ {w : World} {g : Nat} {s : Int} {a : Nat}, Tp w g s a → g < w.heap.size
  below : ∀ {w w' : World} {g : Nat} {s : Int} {a : Nat}, Tp w g s a → Below w.heap.size w w' → Tp w' g s a
  apart : ∀ {w w' : World} {g h : Nat} {s s' : Int} {a a' : Nat}, Tp w g s a → Tp w h s' a' → g ≠ h → w.grownBy w' (some h) → Tp w' g s a
  mlt : ∀ {w : World} {g b : Nat} {s : Int} {a : Nat}, Tp w g s a → Mm w g b → b < w.heap.size
  belowM : ∀ {w w' : World} {g b : Nat} {s : Int} {a : Nat}, Tp w g s a → Below w.heap.size w w' → Mm w' g b → Mm w g b
  apartM : ∀ {w w' : World} {g h b : Nat} {s s' : Int} {a a' : Nat}, Tp w g s a → Tp w h s' a' → g ≠ h → w.grownBy w' (some h) → Mm w' g b → Mm w g b
  own : ∀ {w w' : World} {g : Nat} {s : Int} {a : Nat} {row : Option Nat}, Tp w g s a → (∀ b, row = some b → ¬ Mm w g b) → w.grownBy w' row → Tp w' g s a ∧ ∀ b, Mm w' g b → Mm w g b
  new : ∀ (s : Int) (w : World), -9223372036854775808 ≤ s → s ≤ 9223372036854775807 → Calls Tryd.prog 10 #[.int .i64 s] w fun e w' => ∃ g, e = .returned (.pointer (some ⟨g, 0, none⟩)) ∧ w.heap.size ≤ g ∧ Tp w' g s 0 ∧ Below w.heap.size w w'
  next : ∀ {w : World} {g : Nat} {s : Int} {a : Nat} (n : Nat), Gl w → 2 ≤ g → Tp w g s a → n ≤ 4000 → a ≤ 1000000 → Calls Tryd.prog 38 #[.pointer (some ⟨g, 0, none⟩), .int .i64 (n : Int)] w (RetN Tp Mm w g s a n)
  none_ : ∀ {w : World} {g : Nat} {s : Int} {a : Nat} (n : Int), Tp w g s a → n < 0 ∨ 4000 < n → Calls Tryd.prog 38 #[.pointer (some ⟨g, 0, none⟩), .int .i64 n] w fun e w' => e = .returned (.slice none 0 0) ∧ Below w.heap.size w w'
  nilNext : ∀ (n : Int) (w : World), Calls Tryd.prog 38 #[.pointer none, .int .i64 n] w fun e w' => e = .returned (.slice none 0 0) ∧ Below w.heap.size w w'
  copy : ∀ {w : World} {g : Nat} {s : Int} {a : Nat}, Tp w g s a → Calls Tryd.prog 52 #[.pointer (some ⟨g, 0, none⟩)] w fun e w' => ∃ h, e = .returned (.pointer (some ⟨h, 0, none⟩)) ∧ w.heap.size ≤ h ∧ Tp w' h s a ∧ Below w.heap.size w w'
  nilCopy : ∀ (w : World), Calls Tryd.prog 52 #[.pointer none] w fun e w' => e = .returned (.pointer none) ∧ Below w.heap.size w w'

theorem str_app (a b : List UInt8) : ((⟨a.toArray⟩ : ByteArray) ++ ⟨b.toArray⟩) = ⟨(a ++ b).toArray⟩ := by
  apply ByteArray.ext
  simp
theorem str_same (a : List UInt8) : ((⟨a.toArray⟩ : ByteArray) == ⟨a.toArray⟩) = true := by
  show (a.toArray == a.toArray) = true
  simp
theorem nil_eqIn (d : Nat) (W : World) : (Op.equalIn (d + 1) 28 (.slice none 0 0) (.slice none 0 0)).run Tryd.prog W = .ok true W := by
  simp [Op.equalIn, run_underlying Tryd.underlying28]
theorem nil_eq (W : World) : (binOp .eql 28 (.slice none 0 0) (.slice none 0 0)).run Tryd.prog W = .ok (.bool true) W := by
  simp only [binOp]
  simp [Op.equal, Op.maxDepth, nil_eqIn 9999 W]
/-- New bytes stay, whatever another tape does. -/
theorem Rd.by_ {w w' : World} {A : Option Addr} {n c : Nat} {l : List UInt8} {g : Nat} (h : Rd w A n c l) (hb : w.grownBy w' (some g)) (hne : 0 < n → ∀ ad, A = some ad → ad.block ≠ g) : Rd w' A n c l := h.grown hb hne
theorem Rd.in_ {w : World} {A : Option Addr} {n c : Nat} {l : List UInt8} (h : Rd w A n c l) : 0 < n → ∀ ad, A = some ad → ad.block < w.heap.size := fun h0 ad had => by
  obtain ⟨b, off, e, hlt, _⟩ := h.at_ h0
  rw [had] at e
  injection e with e
  subst e
  exact hlt

/-- 'append(x, ys...)' of bytes that can be read, x nil or the call's own: where the answer lies. -/
theorem onto_lies {ops : Array Oper} {rest : List Oper} {o : Oper} {a : Act} {Q : Exit → Act → World → Prop} {wr w0 : World} {B : Nat} {v : Value} {l : List UInt8} (hgd : o.guard = none) (s x : Operand)
    (ho : o.op = .call { callee := .builtin .append, args := #[s, x], argTypes := #[28, 28] }) (hs : a.eval s = v) {ad : Addr} {m c : Nat} {news : List UInt8} (hx : a.eval x = .slice (some ad) m c) (hr : Rd wr (some ad) m c news) (hm : 0 < m) (hown : Ow wr B v l)
    (hlen : l.length + m ≤ 140737488355328) (hB : B ≤ wr.heap.size) (hbel : Below B w0 wr)
    (h : ∀ v' w', Hid (Ow w' B v' (l ++ news)) → Hid (Below B w0 w') → Hid (wr.grownBy w' v.ownBlock) → Hid (Lies wr v v') → wpList Tryd.prog ops Q rest (a.put o.dst v') w') : wpList Tryd.prog ops Q (o :: rest) a wr := by
  refine wpList_plain hgd fun K hK => ?_
  obtain ⟨v', w', hrun, h2, h3, h4⟩ := run_onto hown o.type hr hm hlen hB
  unfold Oper.wp execOp
  simp only [ho, resolve, invoke, builtin, Sem.run_bind, Sem.run_pure, Result.andThen_ok, List.map_toArray, List.map_cons, List.map_nil, hs, hx, hrun]
  exact hK _ _ (h v' w' h2 (hbel.grown h3 hB fun k hk => (hown.lt_ k hk).1) h3 h4)


set_option maxRecDepth 100000 in
set_option maxHeartbeats 4000000 in
theorem begun7_any {Tp : World → Nat → Int → Nat → Prop} {Mm : World → Nat → Nat → Prop} (hT : TapeOk Tp Mm) {w : World} (hg : Gl w) : Calls Tryd.prog 37 #[] w fun e w' => e = .returned (.bool true) ∧ Below w.heap.size w w' := by
  have HG := Lib.hid hg
  have HT := Lib.hid hT
  have hsz := hg.size
  clear hg hT
  go_enter Tryd.func37, Tryd.ntmps37
  go_wp2_with fail
  refine (HT.out.new 5 w (by omega) (by omega)).mono ?_
  rintro e w1 ⟨g, rfl, hgw, hT1, hX1⟩
  have T1 := Lib.hid hT1
  have W1 := Lib.hid hX1
  have hs1 := hX1.size
  have hgl : g < w1.heap.size := HT.out.lt hT1
  have G1 := Lib.hid (HG.out.below hX1 hsz)
  clear hT1 hX1
  go_wp2_with fail
  refine (HT.out.next 3 G1.out (by omega) T1.out (by omega) (by omega)).mono ?_
  rintro e w2 ⟨A1, c1, rfl, hR1, hT2, hO2, hf1, _⟩
  have hs2 := hO2.size
  have in1 := hR1.in_
  have R1 := Lib.hid hR1
  have T2 := Lib.hid hT2
  have W2 := Lib.hid (below_of_only W1.out hO2 hgw hs1)
  have F1 := Lib.hid hf1
  have N1 := Lib.hid in1
  clear hR1 hT2 hO2 hf1 in1 T1 W1 G1
  go_wp2_with fail
  refine (HT.out.copy T2.out).mono ?_
  rintro e w3 ⟨h, rfl, hhw, hT3, hX3⟩
  have hhl : h < w3.heap.size := HT.out.lt hT3
  have hs3 := hX3.size
  have R2 := Lib.hid (R1.out.below hX3)
  have T3 := Lib.hid hT3
  have T3g := Lib.hid (HT.out.below T2.out hX3)
  have W3 := Lib.hid (W2.out.trans (hX3.mono W2.out.size))
  have G3 := Lib.hid (HG.out.below W3.out hsz)
  clear hT3 hX3 R1 T2 W2
  go_wp2_with fail
  refine (HT.out.next 40 G3.out (by omega) T3g.out (by omega) (by omega)).mono ?_
  rintro e w4 ⟨A4, c4, rfl, hR4, hT4, hO4, hf4, _⟩
  have hs4 := hO4.size
  have R14 := Lib.hid (R2.out.by_ hO4 (fun h0 ad had => by have := F1.out h0 ad had; omega))
  have R4 := Lib.hid hR4
  have F4 := Lib.hid hf4
  have T4h := Lib.hid (HT.out.apart T3.out T3g.out (by omega) hO4)
  have W4 := Lib.hid (below_of_only W3.out hO4 hgw W3.out.size)
  have G4 := Lib.hid (HG.out.below W4.out hsz)
  clear hR4 hT4 hO4 hf4 R2 T3 T3g W3 G3
  go_wp2_with fail
  refine (HT.out.next 40 G4.out (by omega) T4h.out (by omega) (by omega)).mono ?_
  rintro e w5 ⟨A5, c5, rfl, hR5, hT5, hO5, hf5, _⟩
  have R15 := Lib.hid (R14.out.by_ hO5 (fun h0 ad had => by have := N1.out h0 ad had; omega)).drew
  have R45 := Lib.hid (R4.out.by_ hO5 (fun h0 ad had => by have := F4.out h0 ad had; omega)).drew
  have R5 := Lib.hid hR5.drew
  have W5 := Lib.hid (below_of_only W4.out hO5 (by omega) W4.out.size).drew
  have G5 := Lib.hid (HG.out.below W5.out hsz)
  obtain ⟨l1, hl1⟩ : ∃ l, l = Tap.tape 5 0 3 := ⟨_, rfl⟩
  obtain ⟨l2, hl2⟩ : ∃ l, l = Tap.tape 5 (0 + 3) 40 := ⟨_, rfl⟩
  have CT : Hid (∀ W : World, Calls Tryd.prog 17 #[.int .i64 5, .int .i64 0, .int .i64 43] W fun e w' => ∃ A c, e = .returned (.slice A 43 c) ∧ Rd w' A 43 c (l1 ++ l2) ∧ Below W.heap.size W w') := fun W => by
    have := rtape_any 5 0 43 W (by omega) (by omega) (by omega) (by omega)
    rw [show (43 : Nat) = 3 + 40 from rfl, Tap.tape_add, ← hl1, ← hl2] at this
    exact this
  have hle : ¬ (9223372036854775807 < l1.length + l2.length) := by rw [hl1, hl2, Tap.tape_length, Tap.tape_length]; omega
  rw [← hl1] at R15
  rw [← hl2] at R45 R5
  clear hR5 hT5 hO5 hf5 R14 R4 T4h W4 G4 F1 N1 F4 hl1 hl2
  go_upto_region 5 with (fail)
  refine wp_region_any (by kernel_rfl) ?_
  change wpAny _ _ _ _ _ _ _ (World.drew _)
  generalize w5.drew = w6 at *
  refine wpAny_ready (rs := [0]) (by kernel_rfl) (by simp) ?_
  refine AllReady.cons (o := ?p1) ?q1 (fun K hK => ?_) AllReady.nil
  case q1 => simp only [List.getElem?_toArray, List.getElem?_cons_succ, List.getElem?_cons_zero]; rfl
  go_simp
  refine (begun3_any G5.out).mono ?_
  rintro e w7 ⟨rfl, hX⟩
  refine hK _ _ ?_
  clear hK K
  try simp only [Act.put, List.setIfInBounds_toArray, List.set_cons_zero, List.set_cons_succ]
  have W7 := Lib.hid (W5.out.trans (hX.mono W5.out.size))
  have Q1 := Lib.hid (R15.out.below hX)
  have Q4 := Lib.hid (R45.out.below hX)
  have Q5 := Lib.hid (R5.out.below hX)
  clear hX W5 R15 R45 R5 G5
  refine wpAny_take (i := 1) (oi := ?oi2) (v := .bool true) ?hi2 (by kernel_rfl) (by kernel_rfl) (by kernel_rfl) ?hQ2 ?hy2 ?rest2
  case hi2 => simp only [List.getElem?_toArray, List.getElem?_cons_succ, List.getElem?_cons_zero]; rfl
  case hQ2 => exact fun _ _ _ h => h
  case hy2 => exact Or.inl ⟨by rfl, by intro w; go_simp⟩
  try simp only [Act.put, List.setIfInBounds_toArray, List.set_cons_zero, List.set_cons_succ]
  refine wpAny_take (i := 2) (oi := ?oi3) (v := .slice A1 3 c1) ?hi3 (by kernel_rfl) (by kernel_rfl) (by kernel_rfl) ?hQ3 ?hy3 ?rest3
  case hi3 => simp only [List.getElem?_toArray, List.getElem?_cons_succ, List.getElem?_cons_zero]; rfl
  case hQ3 => exact fun _ _ _ h => h
  case hy3 => exact Or.inl ⟨by rfl, by intro w; go_simp⟩
  try simp only [Act.put, List.setIfInBounds_toArray, List.set_cons_zero, List.set_cons_succ]
  refine wpAny_take (i := 3) (oi := ?oi4) (v := .int .i64 3) ?hi4 (by kernel_rfl) (by kernel_rfl) (by kernel_rfl) ?hQ4 ?hy4 ?rest4
  case hi4 => simp only [List.getElem?_toArray, List.getElem?_cons_succ, List.getElem?_cons_zero]; rfl
  case hQ4 => exact fun _ _ _ h => h
  case hy4 => exact Or.inl ⟨by rfl, by intro w; go_simp⟩
  try simp only [Act.put, List.setIfInBounds_toArray, List.set_cons_zero, List.set_cons_succ]
  refine wpAny_take (i := 4) (oi := ?oi5) (v := .bool true) ?hi5 (by kernel_rfl) (by kernel_rfl) (by kernel_rfl) ?hQ5 ?hy5 ?rest5
  case hi5 => simp only [List.getElem?_toArray, List.getElem?_cons_succ, List.getElem?_cons_zero]; rfl
  case hQ5 => exact fun _ _ _ h => h
  case hy5 => exact Or.inl ⟨by rfl, by intro w; go_simp⟩
  try simp only [Act.put, List.setIfInBounds_toArray, List.set_cons_zero, List.set_cons_succ]
  refine wpAny_take (i := 5) (oi := ?oi6) (v := .bool true) ?hi6 (by kernel_rfl) (by kernel_rfl) (by kernel_rfl) ?hQ6 ?hy6 ?rest6
  case hi6 => simp only [List.getElem?_toArray, List.getElem?_cons_succ, List.getElem?_cons_zero]; rfl
  case hQ6 => exact fun _ _ _ h => h
  case hy6 => exact Or.inl ⟨by rfl, by intro w; go_simp⟩
  try simp only [Act.put, List.setIfInBounds_toArray, List.set_cons_zero, List.set_cons_succ]
  refine wpAny_take (i := 6) (oi := ?oi7) (v := .bool true) ?hi7 (by kernel_rfl) (by kernel_rfl) (by kernel_rfl) ?hQ7 ?hy7 ?rest7
  case hi7 => simp only [List.getElem?_toArray, List.getElem?_cons_succ, List.getElem?_cons_zero]; rfl
  case hQ7 => exact fun _ _ _ h => h
  case hy7 => exact Or.inl ⟨by rfl, by intro w; go_simp⟩
  try simp only [Act.put, List.setIfInBounds_toArray, List.set_cons_zero, List.set_cons_succ]
  refine wpAny_take (i := 7) (oi := ?oi8) (v := .slice A4 40 c4) ?hi8 (by kernel_rfl) (by kernel_rfl) (by kernel_rfl) ?hQ8 ?hy8 ?rest8
  case hi8 => simp only [List.getElem?_toArray, List.getElem?_cons_succ, List.getElem?_cons_zero]; rfl
  case hQ8 => exact fun _ _ _ h => h
  case hy8 => exact Or.inl ⟨by rfl, by intro w; go_simp⟩
  try simp only [Act.put, List.setIfInBounds_toArray, List.set_cons_zero, List.set_cons_succ]
  refine wpAny_take (i := 8) (oi := ?oi9) (v := .int .i64 40) ?hi9 (by kernel_rfl) (by kernel_rfl) (by kernel_rfl) ?hQ9 ?hy9 ?rest9
  case hi9 => simp only [List.getElem?_toArray, List.getElem?_cons_succ, List.getElem?_cons_zero]; rfl
  case hQ9 => exact fun _ _ _ h => h
  case hy9 => exact Or.inl ⟨by rfl, by intro w; go_simp⟩
  try simp only [Act.put, List.setIfInBounds_toArray, List.set_cons_zero, List.set_cons_succ]
  refine wpAny_take (i := 9) (oi := ?oi10) (v := .bool true) ?hi10 (by kernel_rfl) (by kernel_rfl) (by kernel_rfl) ?hQ10 ?hy10 ?rest10
  case hi10 => simp only [List.getElem?_toArray, List.getElem?_cons_succ, List.getElem?_cons_zero]; rfl
  case hQ10 => exact fun _ _ _ h => h
  case hy10 => exact Or.inl ⟨by rfl, by intro w; go_simp⟩
  try simp only [Act.put, List.setIfInBounds_toArray, List.set_cons_zero, List.set_cons_succ]
  refine wpAny_take (i := 10) (oi := ?oi11) (v := .bool true) ?hi11 (by kernel_rfl) (by kernel_rfl) (by kernel_rfl) ?hQ11 ?hy11 ?rest11
  case hi11 => simp only [List.getElem?_toArray, List.getElem?_cons_succ, List.getElem?_cons_zero]; rfl
  case hQ11 => exact fun _ _ _ h => h
  case hy11 => exact Or.inl ⟨by rfl, by intro w; go_simp⟩
  try simp only [Act.put, List.setIfInBounds_toArray, List.set_cons_zero, List.set_cons_succ]
  refine wpAny_take (i := 11) (oi := ?oi12) (v := .bool true) ?hi12 (by kernel_rfl) (by kernel_rfl) (by kernel_rfl) ?hQ12 ?hy12 ?rest12
  case hi12 => simp only [List.getElem?_toArray, List.getElem?_cons_succ, List.getElem?_cons_zero]; rfl
  case hQ12 => exact fun _ _ _ h => h
  case hy12 => exact Or.inl ⟨by rfl, by intro w; go_simp⟩
  try simp only [Act.put, List.setIfInBounds_toArray, List.set_cons_zero, List.set_cons_succ]
  refine wpAny_take (i := 12) (oi := ?oi13) (v := .slice A4 40 c4) ?hi13 (by kernel_rfl) (by kernel_rfl) (by kernel_rfl) ?hQ13 ?hy13 ?rest13
  case hi13 => simp only [List.getElem?_toArray, List.getElem?_cons_succ, List.getElem?_cons_zero]; rfl
  case hQ13 => exact fun _ _ _ h => h
  case hy13 => exact Or.inl ⟨by rfl, by intro w; go_simp⟩
  try simp only [Act.put, List.setIfInBounds_toArray, List.set_cons_zero, List.set_cons_succ]
  refine wpAny_take (i := 14) (oi := ?oi14) (v := .slice A5 40 c5) ?hi14 (by kernel_rfl) (by kernel_rfl) (by kernel_rfl) ?hQ14 ?hy14 ?rest14
  case hi14 => simp only [List.getElem?_toArray, List.getElem?_cons_succ, List.getElem?_cons_zero]; rfl
  case hQ14 => exact fun _ _ _ h => h
  case hy14 => exact Or.inl ⟨by rfl, by intro w; go_simp⟩
  try simp only [Act.put, List.setIfInBounds_toArray, List.set_cons_zero, List.set_cons_succ]
  refine phase (fun _ => []) (fun d a w' => ∃ x28 x30 : Value, a = { tmps := #[.bool false, .pointer (some ⟨g, 0, none⟩), .slice A1 3 c1, .pointer (some ⟨h, 0, none⟩), .slice A4 40 c4, .slice A5 40 c5, .pointer (some ⟨g, 0, none⟩), .pointer (some ⟨g, 0, none⟩), .slice A1 3 c1, .pointer (some ⟨g, 0, none⟩), .pointer (some ⟨h, 0, none⟩), .pointer (some ⟨g, 0, none⟩), .slice A4 40 c4, .pointer (some ⟨h, 0, none⟩), .slice A5 40 c5, .bool true, .bool true, .slice A1 3 c1, .int .i64 3, .bool true, .bool true, .bool true, .slice A4 40 c4, .int .i64 40, .bool true, .bool true, .bool true, .slice A4 40 c4, x28, .slice A5 40 c5, x30, undef, undef, undef, undef, undef, undef, undef, undef, undef, undef, undef, undef], defers := [] } ∧ Hid (Below w7.heap.size w7 w') ∧ (d 13 = true → x28 = .string ⟨l2.toArray⟩) ∧ (d 15 = true → x30 = .string ⟨l2.toArray⟩)) [13, 15] ?step1 13 2 [13, 15] _ _ _ rfl (by decide) (fun _ h => h) (by kernel_rfl) ?init1 ?fin1
  case init1 => refine ⟨_, _, rfl, Below.refl _ _, ?_, ?_⟩ <;> (intro h; exact absurd h (by decide))
  case step1 =>
    intro i hi d a w8 hI hdi hdeps
    obtain ⟨x28, x30, rfl, BW, h13, h15⟩ := hI
    simp only [List.mem_cons, List.not_mem_nil, or_false] at hi
    rcases hi with rfl | rfl
    · have hcv := conv_bytes (Q4.out.below BW.out)
      refine wpOp_step (o := ?os15) ?hos15 (fun K hK => ?_)
      case hos15 => simp only [List.getElem?_toArray, List.getElem?_cons_succ, List.getElem?_cons_zero]; rfl
      go_simp
      refine hK _ _ ?_
      clear hK K
      try simp only [Act.put, List.setIfInBounds_toArray, List.set_cons_zero, List.set_cons_succ]
      exact ⟨_, _, rfl, BW, fun _ => rfl, fun a => h15 (by simpa using a)⟩
    · have hcv := conv_bytes (Q5.out.below BW.out)
      refine wpOp_step (o := ?os16) ?hos16 (fun K hK => ?_)
      case hos16 => simp only [List.getElem?_toArray, List.getElem?_cons_succ, List.getElem?_cons_zero]; rfl
      go_simp
      refine hK _ _ ?_
      clear hK K
      try simp only [Act.put, List.setIfInBounds_toArray, List.set_cons_zero, List.set_cons_succ]
      exact ⟨_, _, rfl, BW, fun a => h13 (by simpa using a), fun _ => rfl⟩
  case fin1 =>
    intro a w8 hI
    obtain ⟨x28, x30, rfl, BW, h13, h15⟩ := hI
    obtain rfl := h13 (by decide)
    obtain rfl := h15 (by decide)
    have W8 := Lib.hid (W7.out.trans (BW.out.mono W7.out.size))
    have P1 := Lib.hid (Q1.out.below BW.out)
    have P4 := Lib.hid (Q4.out.below BW.out)
    clear h13 h15 BW Q1 Q4 Q5 W7
    dsimp only
    have hss := str_same l2
    refine wpAny_take (i := 16) (oi := ?oi17) (v := .bool true) ?hi17 (by kernel_rfl) (by kernel_rfl) (by kernel_rfl) ?hQ17 ?hy17 ?rest17
    case hi17 => simp only [List.getElem?_toArray, List.getElem?_cons_succ, List.getElem?_cons_zero]; rfl
    case hQ17 => exact fun _ _ _ h => h
    case hy17 => exact Or.inl ⟨by rfl, by intro w; go_simp⟩
    try simp only [Act.put, List.setIfInBounds_toArray, List.set_cons_zero, List.set_cons_succ]
    refine wpAny_take (i := 17) (oi := ?oi18) (v := .bool true) ?hi18 (by kernel_rfl) (by kernel_rfl) (by kernel_rfl) ?hQ18 ?hy18 ?rest18
    case hi18 => simp only [List.getElem?_toArray, List.getElem?_cons_succ, List.getElem?_cons_zero]; rfl
    case hQ18 => exact fun _ _ _ h => h
    case hy18 => exact Or.inl ⟨by rfl, by intro w; go_simp⟩
    try simp only [Act.put, List.setIfInBounds_toArray, List.set_cons_zero, List.set_cons_succ]
    refine wpAny_take (i := 18) (oi := ?oi19) (v := .bool true) ?hi19 (by kernel_rfl) (by kernel_rfl) (by kernel_rfl) ?hQ19 ?hy19 ?rest19
    case hi19 => simp only [List.getElem?_toArray, List.getElem?_cons_succ, List.getElem?_cons_zero]; rfl
    case hQ19 => exact fun _ _ _ h => h
    case hy19 => exact Or.inl ⟨by rfl, by intro w; go_simp⟩
    try simp only [Act.put, List.setIfInBounds_toArray, List.set_cons_zero, List.set_cons_succ]
    refine wpAny_take (i := 19) (oi := ?oi20) (v := .slice A1 3 c1) ?hi20 (by kernel_rfl) (by kernel_rfl) (by kernel_rfl) ?hQ20 ?hy20 ?rest20
    case hi20 => simp only [List.getElem?_toArray, List.getElem?_cons_succ, List.getElem?_cons_zero]; rfl
    case hQ20 => exact fun _ _ _ h => h
    case hy20 => exact Or.inl ⟨by rfl, by intro w; go_simp⟩
    try simp only [Act.put, List.setIfInBounds_toArray, List.set_cons_zero, List.set_cons_succ]
    refine wpAny_take (i := 21) (oi := ?oi21) (v := .slice A4 40 c4) ?hi21 (by kernel_rfl) (by kernel_rfl) (by kernel_rfl) ?hQ21 ?hy21 ?rest21
    case hi21 => simp only [List.getElem?_toArray, List.getElem?_cons_succ, List.getElem?_cons_zero]; rfl
    case hQ21 => exact fun _ _ _ h => h
    case hy21 => exact Or.inl ⟨by rfl, by intro w; go_simp⟩
    try simp only [Act.put, List.setIfInBounds_toArray, List.set_cons_zero, List.set_cons_succ]
    clear hss
    have hsa := str_app l1 l2
    refine phase (fun i => if i = 23 then [20, 22] else if i = 25 then [24] else []) (fun d a w' => ∃ x35 x37 x38 x39 x40 : Value, a = { tmps := #[.bool false, .pointer (some ⟨g, 0, none⟩), .slice A1 3 c1, .pointer (some ⟨h, 0, none⟩), .slice A4 40 c4, .slice A5 40 c5, .pointer (some ⟨g, 0, none⟩), .pointer (some ⟨g, 0, none⟩), .slice A1 3 c1, .pointer (some ⟨g, 0, none⟩), .pointer (some ⟨h, 0, none⟩), .pointer (some ⟨g, 0, none⟩), .slice A4 40 c4, .pointer (some ⟨h, 0, none⟩), .slice A5 40 c5, .bool true, .bool true, .slice A1 3 c1, .int .i64 3, .bool true, .bool true, .bool true, .slice A4 40 c4, .int .i64 40, .bool true, .bool true, .bool true, .slice A4 40 c4, .string ⟨l2.toArray⟩, .slice A5 40 c5, .string ⟨l2.toArray⟩, .bool true, .bool true, .bool true, .slice A1 3 c1, x35, .slice A4 40 c4, x37, x38, x39, x40, undef, undef], defers := [] } ∧ Hid (Below w8.heap.size w8 w') ∧ (d 20 = true → x35 = .string ⟨l1.toArray⟩) ∧ (d 22 = true → x37 = .string ⟨l2.toArray⟩) ∧ (d 23 = true → x38 = .string ⟨(l1 ++ l2).toArray⟩) ∧ (d 24 = true → Hid (∃ A c, x39 = .slice A 43 c ∧ Rd w' A 43 c (l1 ++ l2))) ∧ (d 25 = true → x40 = .string ⟨(l1 ++ l2).toArray⟩)) [20, 22, 23, 24, 25] ?step2 3 5 [20, 22, 23, 24, 25] _ _ _ rfl (by decide) (fun _ h => h) (by kernel_rfl) ?init2 ?fin2
    case init2 => refine ⟨_, _, _, _, _, rfl, Below.refl _ _, ?_, ?_, ?_, ?_, ?_⟩ <;> (intro h; exact absurd h (by decide))
    case step2 =>
      intro i hi d a w9 hI hdi hdeps
      obtain ⟨x35, x37, x38, x39, x40, rfl, BW, h20, h22, h23, h24, h25⟩ := hI
      have hs9 := BW.out.size
      have H24 : Hid (∀ w7, Below w9.heap.size w9 w7 → (d 24 = true → Hid (∃ A c, x39 = .slice A 43 c ∧ Rd w7 A 43 c (l1 ++ l2)))) := fun w7 hX a => by obtain ⟨A, c, e, hR⟩ := (h24 a).out; exact ⟨A, c, e, hR.below hX⟩
      clear h24
      simp only [List.mem_cons, List.not_mem_nil, or_false] at hi
      rcases hi with rfl | rfl | rfl | rfl | rfl
      · have hcv := conv_bytes (P1.out.below BW.out)
        refine wpOp_step (o := ?os22) ?hos22 (fun K hK => ?_)
        case hos22 => simp only [List.getElem?_toArray, List.getElem?_cons_succ, List.getElem?_cons_zero]; rfl
        go_simp
        refine hK _ _ ?_
        clear hK K
        try simp only [Act.put, List.setIfInBounds_toArray, List.set_cons_zero, List.set_cons_succ]
        exact ⟨_, _, _, _, _, rfl, BW, fun _ => rfl, fun a => h22 (by simpa using a), fun a => h23 (by simpa using a), fun a => H24.out _ (Below.refl _ _) (by simpa using a), fun a => h25 (by simpa using a)⟩
      · have hcv := conv_bytes (P4.out.below BW.out)
        refine wpOp_step (o := ?os23) ?hos23 (fun K hK => ?_)
        case hos23 => simp only [List.getElem?_toArray, List.getElem?_cons_succ, List.getElem?_cons_zero]; rfl
        go_simp
        refine hK _ _ ?_
        clear hK K
        try simp only [Act.put, List.setIfInBounds_toArray, List.set_cons_zero, List.set_cons_succ]
        exact ⟨_, _, _, _, _, rfl, BW, fun a => h20 (by simpa using a), fun _ => rfl, fun a => h23 (by simpa using a), fun a => H24.out _ (Below.refl _ _) (by simpa using a), fun a => h25 (by simpa using a)⟩
      · obtain rfl := h20 (hdeps 20 (by simp))
        obtain rfl := h22 (hdeps 22 (by simp))
        refine wpOp_step (o := ?os24) ?hos24 (fun K hK => ?_)
        case hos24 => simp only [List.getElem?_toArray, List.getElem?_cons_succ, List.getElem?_cons_zero]; rfl
        go_simp
        refine hK _ _ ?_
        clear hK K
        try simp only [Act.put, List.setIfInBounds_toArray, List.set_cons_zero, List.set_cons_succ]
        exact ⟨_, _, _, _, _, rfl, BW, fun _ => rfl, fun _ => rfl, fun _ => rfl, fun a => H24.out _ (Below.refl _ _) (by simpa using a), fun a => h25 (by simpa using a)⟩
      · refine wpOp_step (o := ?os25) ?hos25 (fun K hK => ?_)
        case hos25 => simp only [List.getElem?_toArray, List.getElem?_cons_succ, List.getElem?_cons_zero]; rfl
        go_simp
        refine (CT.out w9).mono ?_
        rintro e w10 ⟨A, c, rfl, hR, hX⟩
        refine hK _ _ ?_
        clear hK K
        try simp only [Act.put, List.setIfInBounds_toArray, List.set_cons_zero, List.set_cons_succ]
        exact ⟨_, _, _, _, _, rfl, BW.out.trans (hX.mono hs9), fun a => h20 (by simpa using a), fun a => h22 (by simpa using a), fun a => h23 (by simpa using a), fun _ => ⟨_, _, rfl, hR⟩, fun a => h25 (by simpa using a)⟩
      · obtain ⟨A, c, rfl, hR⟩ := (H24.out w9 (Below.refl _ _) (hdeps 24 (by simp))).out
        have hcv := conv_bytes hR
        refine wpOp_step (o := ?os26) ?hos26 (fun K hK => ?_)
        case hos26 => simp only [List.getElem?_toArray, List.getElem?_cons_succ, List.getElem?_cons_zero]; rfl
        go_simp
        refine hK _ _ ?_
        clear hK K
        try simp only [Act.put, List.setIfInBounds_toArray, List.set_cons_zero, List.set_cons_succ]
        exact ⟨_, _, _, _, _, rfl, BW, fun a => h20 (by simpa using a), fun a => h22 (by simpa using a), fun a => h23 (by simpa using a), fun _ => ⟨_, _, rfl, hR⟩, fun _ => rfl⟩
    case fin2 =>
      intro a w9 hI
      obtain ⟨x35, x37, x38, x39, x40, rfl, BW, h20, h22, h23, h24, h25⟩ := hI
      obtain rfl := h23 (by decide)
      obtain rfl := h25 (by decide)
      have W9 := Lib.hid (W8.out.trans (BW.out.mono W8.out.size))
      clear h20 h22 h23 h24 h25 BW
      dsimp only
      have hss := str_same (l1 ++ l2)
      refine wpAny_take (i := 26) (oi := ?oi27) (v := .bool true) ?hi27 (by kernel_rfl) (by kernel_rfl) (by kernel_rfl) ?hQ27 ?hy27 ?rest27
      case hi27 => simp only [List.getElem?_toArray, List.getElem?_cons_succ, List.getElem?_cons_zero]; rfl
      case hQ27 => exact fun _ _ _ h => h
      case hy27 => exact Or.inl ⟨by rfl, by intro w; go_simp⟩
      try simp only [Act.put, List.setIfInBounds_toArray, List.set_cons_zero, List.set_cons_succ]
      refine wpAny_take (i := 27) (oi := ?oi28) (v := .bool true) ?hi28 (by kernel_rfl) (by kernel_rfl) (by kernel_rfl) ?hQ28 ?hy28 ?rest28
      case hi28 => simp only [List.getElem?_toArray, List.getElem?_cons_succ, List.getElem?_cons_zero]; rfl
      case hQ28 => exact fun _ _ _ h => h
      case hy28 => exact Or.inl ⟨by rfl, by intro w; go_simp⟩
      try simp only [Act.put, List.setIfInBounds_toArray, List.set_cons_zero, List.set_cons_succ]
      refine wpAny_take (i := 28) (oi := ?oi29) (v := .bool true) ?hi29 (by kernel_rfl) (by kernel_rfl) (by kernel_rfl) ?hQ29 ?hy29 ?rest29
      case hi29 => simp only [List.getElem?_toArray, List.getElem?_cons_succ, List.getElem?_cons_zero]; rfl
      case hQ29 => exact fun _ _ _ h => h
      case hy29 => exact Or.inl ⟨by rfl, by intro w; go_simp⟩
      try simp only [Act.put, List.setIfInBounds_toArray, List.set_cons_zero, List.set_cons_succ]
      refine wpAny_done (by kernel_rfl) ?_ _
      go_wp2_with fail
      go_ret
      exact ⟨rfl, W9.out⟩
end Go.Proofs.YtpbfeobifpmjbaaDoor
