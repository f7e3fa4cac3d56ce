/- The document's own box in memory: its notes, its draw. -/
import Derived.Test.YtpbfeobifpmjbaaDoorBoxPc
import Derived.Laws.IdiomStrings
namespace Go.Proofs.YtpbfeobifpmjbaaDoor
set_option linter.unusedVariables false
set_option linter.unusedSimpArgs false
set_option maxRecDepth 100000
open Go.RowKit

/-- A note of the document's box. -/
structure RNote where
  kind : Int
  key : List UInt8
  b : List UInt8
  out : List UInt8
def RNote.cells (n : RNote) : List Value := .int .i64 n.kind :: (n.key.map cellOf ++ [.int .i64 0, .string ⟨#[]⟩, .string ⟨n.b.toArray⟩, .string ⟨n.out.toArray⟩])
theorem RNote.cells_length (n : RNote) (h : n.key.length = 32) : n.cells.length = 37 := by simp [RNote.cells, h]
theorem RNote.cells_one (n : RNote) : ∀ v ∈ n.cells, v.oneCell' = true := fun v hv => by
  unfold RNote.cells at hv
  rcases List.mem_cons.1 hv with rfl | hv
  · rfl
  rcases List.mem_append.1 hv with hv | hv
  · exact cells_u8 n.key v hv
  · simp at hv
    rcases hv with rfl | rfl | rfl | rfl <;> rfl
def lookR (kind : Int) (key b : List UInt8) : List RNote → Option (List UInt8)
  | [] => none
  | n :: l => if n.kind = kind ∧ n.key = key ∧ n.b = b then some n.out else lookR kind key b l
theorem lookR_app (kind : Int) (key b : List UInt8) (n : RNote) : ∀ (l : List RNote), lookR kind key b (l ++ [n]) = (lookR kind key b l).or (if n.kind = kind ∧ n.key = key ∧ n.b = b then some n.out else none)
  | [] => by simp [lookR]
  | m :: l => by
    rw [List.cons_append, lookR, lookR, lookR_app kind key b n l]
    split <;> simp
theorem lookR_take {kind : Int} {key b : List UInt8} {l : List RNote} {k : Nat} (h : k < l.length) (hn : lookR kind key b (l.take k) = none) :
    (¬ (l[k].kind = kind ∧ l[k].key = key ∧ l[k].b = b) → lookR kind key b (l.take (k + 1)) = none) ∧ ((l[k].kind = kind ∧ l[k].key = key ∧ l[k].b = b) → lookR kind key b l = some l[k].out) := by
  have e : l.take (k + 1) = l.take k ++ [l[k]] := by rw [List.take_add_one, List.getElem?_eq_getElem h]; rfl
  have h1 : lookR kind key b (l.take (k + 1)) = if l[k].kind = kind ∧ l[k].key = key ∧ l[k].b = b then some l[k].out else none := by rw [e, lookR_app, hn, Option.none_or]
  refine ⟨fun hc => by rw [h1, if_neg hc], fun hc => ?_⟩
  rw [if_pos hc] at h1
  have more : ∀ (p q : List RNote) (o : List UInt8), lookR kind key b p = some o → lookR kind key b (p ++ q) = some o := by
    intro p
    induction p with
    | nil => intro q o h; simp [lookR] at h
    | cons x p ih =>
      intro q o h
      rw [List.cons_append, lookR]
      rw [lookR] at h
      split
      · rename_i hc2; rw [if_pos hc2] at h; exact h
      · rename_i hc2; rw [if_neg hc2] at h; exact ih q o h
  have := more _ (l.drop (k + 1)) _ h1
  rwa [List.take_append_drop] at this
def GoodR (l : List RNote) : Prop := ∀ n ∈ l, n.key.length = 32 ∧ n.out.length = 32
theorem flat_length {l : List RNote} (h : GoodR l) : (l.flatMap RNote.cells).length = l.length * 37 := by
  induction l with
  | nil => rfl
  | cons n l ih =>
    rw [List.flatMap_cons, List.length_append, ih (fun m hm => h m (by simp [hm])), RNote.cells_length n (h n (by simp)).1, List.length_cons]
    omega
theorem flat_at : ∀ {l : List RNote} (h : GoodR l) {k : Nat} (hk : k < l.length) (j : Nat), j < 37 → (l.flatMap RNote.cells)[k * 37 + j]? = (l[k].cells)[j]?
  | [], _, k, hk, _, _ => by simp at hk
  | n :: l, h, 0, hk, j, hj => by
    rw [List.flatMap_cons, Nat.zero_mul, Nat.zero_add, List.getElem?_append_left (by rw [RNote.cells_length n (h n (by simp)).1]; exact hj)]
    rfl
  | n :: l, h, k + 1, hk, j, hj => by
    have hl := RNote.cells_length n (h n (by simp)).1
    rw [List.flatMap_cons, List.getElem?_append_right (by rw [hl]; omega), hl, show (k + 1) * 37 + j - 37 = k * 37 + j by omega]
    exact flat_at (fun m hm => h m (by simp [hm])) (by simpa using hk) j hj
/-- At g lies the document's box of seed s, at byte a of its tape, with these notes; v is their slice, a row from block B on. -/
structure RefAt (w : World) (B g : Nat) (s : Int) (a : Nat) (l : List RNote) (v : Value) : Prop where
  blk : Blk w g 48 [.int .i64 1, .int .i64 s, .int .i64 (a : Int), v]
  own : w.ownsRow B 93 37 v l.length (l.flatMap RNote.cells)
  good : GoodR l
  lo : -9223372036854775808 ≤ s
  hi : s ≤ 9223372036854775807
theorem RefAt.apart {w : World} {B g : Nat} {s : Int} {a : Nat} {l : List RNote} {v : Value} (h : RefAt w B g s a l v) : some g ≠ v.ownBlock := blk_apart h.blk h.own (by decide)
theorem RefAt.keep {w w' : World} {B g : Nat} {s : Int} {a : Nat} {l : List RNote} {v : Value} (h : RefAt w B g s a l v) (hs : w.heap.size ≤ w'.heap.size) (hg : w'.heap[g]? = w.heap[g]?) (hv : ∀ q, v.ownBlock = some q → w'.heap[q]? = w.heap[q]?) : RefAt w' B g s a l v := by
  refine ⟨hg.trans h.blk, ⟨h.own.1, ?_⟩, h.good, h.lo, h.hi⟩
  rcases h.own.2 with h1 | ⟨q, cap, cur, e, h1, h2, h3⟩
  · exact .inl h1
  · exact .inr ⟨q, cap, cur, e, h1, (hv q (by rw [e]; rfl)).trans h2, h3⟩
theorem RefAt.below {w w' : World} {B g : Nat} {s : Int} {a : Nat} {l : List RNote} {v : Value} (h : RefAt w B g s a l v) (hb : Below w.heap.size w w') : RefAt w' B g s a l v :=
  h.keep hb.size (hb.block g h.blk.lt) fun q hq => hb.block q (World.ownsRow.lt h.own q hq).2
/-- The cells of its k-th note. -/
theorem RefAt.note {w : World} {B g : Nat} {s : Int} {a : Nat} {l : List RNote} {v : Value} (h : RefAt w B g s a l v) {k : Nat} (hk : k < l.length) : ∃ gr cap, v = .slice (some ⟨gr, 0, none⟩) l.length cap ∧ gr < w.heap.size ∧ cap ≤ maxLen ∧ ∀ j x, (l[k].cells)[j]? = some x → w.cell? ⟨gr, k * 37 + j, none⟩ = some x := by
  rcases h.own.2 with ⟨_, h1⟩ | ⟨q, cap, cur, e, h1, h2, h3, h4, h5, h6⟩
  · omega
  · refine ⟨q, cap, e, (Array.getElem?_eq_some_iff.1 h2).1, h4, fun j x hx => ?_⟩
    have hlen := RNote.cells_length l[k] (h.good _ (List.getElem_mem hk)).1
    have hj : j < 37 := by rw [← hlen]; exact (List.getElem?_eq_some_iff.1 hx).1
    have hf := flat_at h.good hk j hj
    rw [hx, ← h6, List.getElem?_take_of_lt (by have := Nat.mul_le_mul_right 37 (show k + 1 ≤ l.length by omega); omega), Array.getElem?_toList] at hf
    rw [cell_of_row _ _ _ _ 93 _ h2]
    exact hf
theorem infoNt : (Tryd.prog.info? 93).map (·.size) = some 37 := by kernel_rfl
theorem index_note (b off n c k : Nat) (h : k < n) (W : World) : (Instr.indexAt 46 (.slice (some ⟨b, off, none⟩) n c) (.int .i64 (k : Int))).run Tryd.prog W = .ok (.pointer (some ⟨b, off + k * 37, none⟩)) W := by
  obtain ⟨i0, hi, hsz⟩ : ∃ i0, Tryd.prog.info? 93 = some i0 ∧ i0.size = 37 := by
    have := infoNt
    cases hh : Tryd.prog.info? 93 with
    | none => rw [hh] at this; cases this
    | some i0 => rw [hh] at this; exact ⟨i0, rfl, by simpa using this⟩
  have hel : Tryd.prog.elem 46 = 93 := by kernel_rfl
  rw [run_indexAt_slice (P := Tryd.prog) W 46 ⟨b, off, none⟩ n c .i64 (k : Int) (by rw [hel]; exact Tryd.underlying46), if_pos ⟨by omega, by omega⟩, hel]
  simp [sizeOf, typeInfo, hi, hsz, add_plain]

set_option maxRecDepth 100000 in
set_option maxHeartbeats 400000 in
theorem rdraw_any {w : World} {g : Nat} {s : Int} {ta : Nat} {v : Value} (hb : Blk w g 48 [.int .i64 1, .int .i64 s, .int .i64 (ta : Int), v]) (h1 : -9223372036854775808 ≤ s) (h2 : s ≤ 9223372036854775807) (ha : ta ≤ 1000000) :
    Calls Tryd.prog 46 #[.pointer (some ⟨g, 0, none⟩), .int .i64 32] w fun e w' => ∃ A c, e = .returned (.slice A 32 c) ∧ Rd w' A 32 c (Tap.tape s ta 32) ∧ Blk w' g 48 [.int .i64 1, .int .i64 s, .int .i64 ((ta + 32 : Nat) : Int), v] ∧ w.grownBy w' (some g) := by
  obtain ⟨out, hout⟩ : ∃ l, l = Tap.tape s ta 32 := ⟨_, rfl⟩
  have CT : Hid (∀ W : World, Calls Tryd.prog 17 #[.int .i64 s, .int .i64 (ta : Int), .int .i64 32] W fun e w' => ∃ A c, e = .returned (.slice A 32 c) ∧ Rd w' A 32 c out ∧ Below W.heap.size W w') := fun W => by
    rw [hout]
    exact rtape_any s ta 32 W (by omega) (by omega) (by omega) (by omega)
  rw [← hout]
  have HBB := Lib.hid hb
  obtain ⟨tb, htb⟩ : ∃ tb, tb = ta + 32 := ⟨_, rfl⟩
  have e32 : (ta : Int) + 32 = (tb : Int) := by omega
  rw [← htb]
  clear hb hout htb
  go_enter Tryd.func46, Tryd.ntmps46
  go_upto_region 1 with (fail)
  refine wp_region_any (by kernel_rfl) ?_
  change wpAny _ _ _ _ _ _ _ (World.drew _)
  have B0 := Lib.hid HBB.out.drew
  have W0 : Hid (Below w.heap.size w w.drew) := (Below.refl _ _).drew
  have hgl := HBB.out.lt
  generalize w.drew = w0 at *
  refine wpAny_take (i := 0) (oi := ?oi1) (v := .pointer (some ⟨g, 0, none⟩)) ?hi1 (by kernel_rfl) (by kernel_rfl) (by kernel_rfl) ?hQ1 ?hy1 ?rest1
  case hi1 => simp only [List.getElem?_toArray, List.getElem?_cons_succ, List.getElem?_cons_zero]; rfl
  case hQ1 => exact fun _ _ _ h => h
  case hy1 => exact Or.inl ⟨by rfl, by intro w; go_simp⟩
  try simp only [Act.put, List.setIfInBounds_toArray, List.set_cons_zero, List.set_cons_succ]
  refine wpAny_take (i := 1) (oi := ?oi2) (v := .pointer (some ⟨g, 0, none⟩)) ?hi2 (by kernel_rfl) (by kernel_rfl) (by kernel_rfl) ?hQ2 ?hy2 ?rest2
  case hi2 => simp only [List.getElem?_toArray, List.getElem?_cons_succ, List.getElem?_cons_zero]; rfl
  case hQ2 => exact fun _ _ _ h => h
  case hy2 => exact Or.inl ⟨by rfl, by intro w; go_simp⟩
  try simp only [Act.put, List.setIfInBounds_toArray, List.set_cons_zero, List.set_cons_succ]
  refine wpAny_take (i := 2) (oi := ?oi3) (v := .pointer (some ⟨g, 1, none⟩)) ?hi3 (by kernel_rfl) (by kernel_rfl) (by kernel_rfl) ?hQ3 ?hy3 ?rest3
  case hi3 => simp only [List.getElem?_toArray, List.getElem?_cons_succ, List.getElem?_cons_zero]; rfl
  case hQ3 => exact fun _ _ _ h => h
  case hy3 => exact Or.inl ⟨by rfl, by intro w; go_simp⟩
  try simp only [Act.put, List.setIfInBounds_toArray, List.set_cons_zero, List.set_cons_succ]
  refine wpAny_take (i := 4) (oi := ?oi4) (v := .pointer (some ⟨g, 0, none⟩)) ?hi4 (by kernel_rfl) (by kernel_rfl) (by kernel_rfl) ?hQ4 ?hy4 ?rest4
  case hi4 => simp only [List.getElem?_toArray, List.getElem?_cons_succ, List.getElem?_cons_zero]; rfl
  case hQ4 => exact fun _ _ _ h => h
  case hy4 => exact Or.inl ⟨by rfl, by intro w; go_simp⟩
  try simp only [Act.put, List.setIfInBounds_toArray, List.set_cons_zero, List.set_cons_succ]
  refine wpAny_take (i := 5) (oi := ?oi5) (v := .pointer (some ⟨g, 0, none⟩)) ?hi5 (by kernel_rfl) (by kernel_rfl) (by kernel_rfl) ?hQ5 ?hy5 ?rest5
  case hi5 => simp only [List.getElem?_toArray, List.getElem?_cons_succ, List.getElem?_cons_zero]; rfl
  case hQ5 => exact fun _ _ _ h => h
  case hy5 => exact Or.inl ⟨by rfl, by intro w; go_simp⟩
  try simp only [Act.put, List.setIfInBounds_toArray, List.set_cons_zero, List.set_cons_succ]
  refine wpAny_take (i := 6) (oi := ?oi6) (v := .pointer (some ⟨g, 2, none⟩)) ?hi6 (by kernel_rfl) (by kernel_rfl) (by kernel_rfl) ?hQ6 ?hy6 ?rest6
  case hi6 => simp only [List.getElem?_toArray, List.getElem?_cons_succ, List.getElem?_cons_zero]; rfl
  case hQ6 => exact fun _ _ _ h => h
  case hy6 => exact Or.inl ⟨by rfl, by intro w; go_simp⟩
  try simp only [Act.put, List.setIfInBounds_toArray, List.set_cons_zero, List.set_cons_succ]
  refine wpAny_take (i := 8) (oi := ?oi7) (v := .int .i64 32) ?hi7 (by kernel_rfl) (by kernel_rfl) (by kernel_rfl) ?hQ7 ?hy7 ?rest7
  case hi7 => simp only [List.getElem?_toArray, List.getElem?_cons_succ, List.getElem?_cons_zero]; rfl
  case hQ7 => exact fun _ _ _ h => h
  case hy7 => exact Or.inl ⟨by rfl, by intro w; go_simp⟩
  try simp only [Act.put, List.setIfInBounds_toArray, List.set_cons_zero, List.set_cons_succ]
  refine phaseL (fun i => []) (fun d a w' => ∃ x9 x13 : Value, a = { tmps := #[.pointer (some ⟨g, 0, none⟩), .int .i64 32, undef, undef, .slice none 0 0, undef, .pointer (some ⟨g, 0, none⟩), .pointer (some ⟨g, 0, none⟩), .pointer (some ⟨g, 1, none⟩), x9, .pointer (some ⟨g, 0, none⟩), .pointer (some ⟨g, 0, none⟩), .pointer (some ⟨g, 2, none⟩), x13, .int .i64 32, undef, undef, undef, undef, undef, undef, undef, undef, undef, undef], defers := [] } ∧ Hid (Below w0.heap.size w0 w') ∧ (d 3 = true → x9 = .int .i64 s) ∧ (d 7 = true → x13 = .int .i64 (ta : Int))) [3, 7] ?step8 2 2 [3, 7] _ _ _ rfl (by decide) (fun _ h => h) (Fits.of (by kernel_rfl)) ?init8 ?fin8
  case init8 => refine ⟨_, _, rfl, Below.refl _ _, ?_, ?_⟩ <;> (intro h; exact absurd h (by decide))
  case step8 =>
    intro i hi d a v8 hI hdi hdeps
    obtain ⟨x9, x13, rfl, BW, h3, h7⟩ := hI
    have hsw := BW.out.size
    simp only [List.mem_cons, List.not_mem_nil, or_false] at hi
    rcases hi with rfl | rfl
    · have c0 : v8.cell? ⟨g, 1, none⟩ = some (.int .i64 s) := (B0.out.below BW.out B0.out.lt).cell 1
      refine wpOp_step (o := ?os9) ?hos9 (fun K hK => ?_)
      case hos9 => simp only [List.getElem?_toArray, List.getElem?_cons_succ, List.getElem?_cons_zero]; rfl
      go_simp
      refine hK _ _ ?_
      clear hK K
      try simp only [Act.put, List.setIfInBounds_toArray, List.set_cons_zero, List.set_cons_succ]
      exact ⟨_, _, rfl, BW, fun _ => rfl, fun a => by first | exact h7 (by simpa using a) | rfl⟩
    · have c0 : v8.cell? ⟨g, 2, none⟩ = some (.int .i64 (ta : Int)) := (B0.out.below BW.out B0.out.lt).cell 2
      refine wpOp_step (o := ?os10) ?hos10 (fun K hK => ?_)
      case hos10 => simp only [List.getElem?_toArray, List.getElem?_cons_succ, List.getElem?_cons_zero]; rfl
      go_simp
      refine hK _ _ ?_
      clear hK K
      try simp only [Act.put, List.setIfInBounds_toArray, List.set_cons_zero, List.set_cons_succ]
      exact ⟨_, _, rfl, BW, fun a => by first | exact h3 (by simpa using a) | rfl, fun _ => rfl⟩
  case fin8 =>
    intro a v8 hI
    obtain ⟨x9, x13, rfl, BW, h3, h7⟩ := hI
    obtain rfl := h3 (by decide)
    obtain rfl := h7 (by decide)
    replace W0 := Lib.hid (W0.out.trans (BW.out.mono W0.out.size))
    replace B0 := Lib.hid (B0.out.below BW.out B0.out.lt)
    clear h3 h7 BW
    try dsimp only
    refine wpAny_ready (rs := [9]) (by kernel_rfl) (by simp) ?_
    refine AllReady.cons (o := ?p11) ?q11 (fun K hK => ?_) AllReady.nil
    case q11 => simp only [List.getElem?_toArray, List.getElem?_cons_succ, List.getElem?_cons_zero]; rfl
    go_simp
    refine (CT.out _).mono ?_
    rintro e w5 ⟨A, c, rfl, hR, hX⟩
    refine hK _ _ ?_
    clear hK K
    try simp only [Act.put, List.setIfInBounds_toArray, List.set_cons_zero, List.set_cons_succ]
    replace W0 := Lib.hid (W0.out.trans (hX.mono W0.out.size))
    replace B0 := Lib.hid (B0.out.below hX B0.out.lt)
    have RA := Lib.hid hR
    clear hR hX
    refine wpAny_take (i := 10) (oi := ?oi12) (v := .slice A 32 c) ?hi12 (by kernel_rfl) (by kernel_rfl) (by kernel_rfl) ?hQ12 ?hy12 ?rest12
    case hi12 => simp only [List.getElem?_toArray, List.getElem?_cons_succ, List.getElem?_cons_zero]; rfl
    case hQ12 => exact fun _ _ _ h => h
    case hy12 => exact Or.inl ⟨by rfl, by intro w; go_simp⟩
    try simp only [Act.put, List.setIfInBounds_toArray, List.set_cons_zero, List.set_cons_succ]
    refine wpAny_done (by kernel_rfl) ?_ _
    have c0 : w5.cell? ⟨g, 2, none⟩ = some (.int .i64 (ta : Int)) := B0.out.cell 2
    have f0 : w5.frozen? ⟨g, 2, none⟩ = false := B0.out.frozen 2
    have hne : ∀ x : Addr, A = some x → x.block ≠ g := fun x hx he => by
      obtain ⟨gb, off, e, hlt, hc⟩ := RA.out.at_ (by omega)
      rw [hx] at e
      injection e with e
      subst e
      have h31 := hc 31 (by omega)
      simp only at he
      subst he
      rw [B0.out.cell, List.getElem?_eq_none (by simp)] at h31
      cases h31
    have YG : Hid (Blk (w5.setCell ⟨g, 2, none⟩ (.int .i64 (tb : Int))) g 48 [.int .i64 1, .int .i64 s, .int .i64 (tb : Int), v]) := B0.out.set_ 2 _
    have YR : Hid (Rd (w5.setCell ⟨g, 2, none⟩ (.int .i64 (tb : Int))) A 32 c out) := RA.out.keep (by simp) (fun bb off e h0 hlt => Below.heap_setCell w5 ⟨g, 2, none⟩ _ bb (hne _ e))
    have YW : Hid (w.grownBy (w5.setCell ⟨g, 2, none⟩ (.int .i64 (tb : Int))) (some g)) := only_setCell (only_of_below W0.out (some g)) (.inl rfl) _
    clear hne RA B0 W0
    go_wp2_with fail
    go_ret
    exact ⟨A, c, rfl, YR.out, YG.out, YW.out⟩
end Go.Proofs.YtpbfeobifpmjbaaDoor
