/- Gchr: Wrow ChaR ChaY. -/
import Derived.Test.YtpbfeobifpmjbaaDoorGrow
import Derived.Test.YtpbfeobifpmjbaaDoorGcha
import Derived.Deep.DeepCutAuto
/- Rows of words that a call owns. -/
namespace Go.Proofs.YtpbfeobifpmjbaaDoor
set_option linter.unusedVariables false
set_option linter.unusedSimpArgs false
set_option maxRecDepth 100000
open Go.RowKit

theorem infoW : (Tryd.prog.info? 81).map (fun i => (i.zero, i.size, i.bytes)) = some (some (.int .u32 0), 1, 4) := by kernel_rfl
/-- The value v owns the words l, in a row from block 'base' on. -/
def OwW (w : World) (base : Nat) (v : Value) (l : List Int) : Prop := w.ownsRow base 81 1 v l.length (l.map wd)
theorem OwW.empty (w : World) (B : Nat) : OwW w B (.slice none 0 0) [] := World.ownsRow_nil w B 81 1
theorem OwW.keep {w w' : World} {base : Nat} {v : Value} {l : List Int} (h : OwW w base v l) (hk : Below w.heap.size w w') : OwW w' base v l := by
  refine ⟨h.1, ?_⟩
  rcases h.2 with ⟨rfl, h2⟩ | ⟨g, cap, cur, rfl, hb, hg, h3⟩
  · exact .inl ⟨rfl, h2⟩
  · refine .inr ⟨g, cap, cur, rfl, hb, ?_, h3⟩
    rw [hk.block g ?_]
    · exact hg
    · rcases Nat.lt_or_ge g w.heap.size with hlt | hge
      · exact hlt
      · rw [Array.getElem?_eq_none hge] at hg; cases hg
/-- A slice of words written out. -/
theorem OwW.lit (w : World) (B : Nat) (l : List Int) (a : Array Value) (n : Nat) (ha : a = (l.map wd).toArray) (hn : l.length = n) (hm : n ≤ 1000000) (hB : B ≤ w.heap.size) : OwW (w.alloc (.cells a 81)) B (.slice (some ⟨w.heap.size, 0, none⟩) n n) l := by
  subst ha
  subst hn
  exact ⟨by simp, .inr ⟨w.heap.size, l.length, _, rfl, hB, heap_alloc_new w _, Nat.le_refl _, by unfold maxLen; omega, by simp, by rw [Nat.mul_one]; exact List.take_of_length_le (by simp)⟩⟩
theorem OwW.blk {w : World} {base : Nat} {v : Value} {l : List Int} (h : OwW w base v l) (h0 : 0 < l.length) : ∃ g c ex, v = .slice (some ⟨g, 0, none⟩) l.length c ∧ base ≤ g ∧ Blk w g 81 (l.map wd ++ ex) ∧ l.length ≤ c ∧ c ≤ maxLen := by
  rcases h.2 with ⟨rfl, hn⟩ | ⟨g, cap, cur, rfl, hb, hg, hnc, hcm, hcs, htake⟩
  · omega
  · refine ⟨g, cap, cur.toList.drop l.length, rfl, hb, ?_, hnc, hcm⟩
    have e : l.map wd ++ cur.toList.drop l.length = cur.toList := by
      rw [← htake, Nat.mul_one, List.take_append_drop]
    rw [e]
    unfold Blk
    rw [Array.toArray_toList]
    exact hg
theorem word_at {w : World} {g j : Nat} {t : TypeId} {l : List Int} {ex : List Value} (hB : Blk w g t (l.map wd ++ ex)) (hj : j < l.length) : w.cell? ⟨g, j, none⟩ = some (.int .u32 (l.getD j 0)) := by
  rw [hB.cell, List.getElem?_append_left (by simpa using hj)]
  simp [wd, List.getD_eq_getElem?_getD, List.getElem?_eq_getElem hj]
theorem word_put {w : World} {g j : Nat} {t : TypeId} {l : List Int} {ex : List Value} (hB : Blk w g t (l.map wd ++ ex)) (hj : j < l.length) (x : Int) : Blk (w.setCell ⟨g, j, none⟩ (.int .u32 x)) g t ((l.set j x).map wd ++ ex) := by
  have := hB.set_ j (wd x)
  rw [List.set_append_left _ _ (by simpa using hj), ← List.map_set] at this
  exact this

theorem run_ontoW {wr : World} {B : Nat} {v : Value} {l : List Int} (hown : OwW wr B v l) (ty : TypeId) {q m c : Nat} {t : TypeId} {news : List Int} {ex : List Value} (hb : Blk wr q t (news.map wd ++ ex)) (hm : news.length = m) (hlen : l.length + m ≤ 1000000000) (hB : B ≤ wr.heap.size) :
    ∃ v' w', (Builtin.append_ #[90, 90] ty #[v, .slice (some ⟨q, 0, none⟩) m c]).run Tryd.prog wr = .ok v' w' ∧ OwW w' B v' (l ++ news) ∧ wr.grownBy w' v.ownBlock := by
  obtain ⟨i0, hi, hz0, hz1, hz2⟩ := info_parts infoW
  have hl : (news.map wd).length = m * i0.size := by rw [hz1]; simpa using hm
  have hnews : ∀ j u, (news.map wd)[j]? = some u → wr.cell? ((⟨q, 0, none⟩ : Addr).add j) = some u := fun j u hu => by
    have hj : j < news.length := by simpa using (List.getElem?_eq_some_iff.1 hu).1
    rw [add_plain, Nat.zero_add, hb.cell, List.getElem?_append_left (by simpa using hj)]
    exact hu
  have h63 : l.length + m ≤ maxLen := by unfold maxLen; omega
  have hown' : wr.ownsRow B 81 i0.size v l.length (l.map wd) := by rw [hz1]; exact hown
  obtain ⟨v', w', hrun, h2, h3, h4⟩ := run_append_own (P := Tryd.prog) wr B 90 ty 81 i0 (.int .u32 0) i0.size i0.bytes Tryd.underlying90 hi hz0 rfl rfl (by rw [hz1]; rfl) (by rw [hz1]; omega) v l.length (l.map wd) hown' ⟨q, 0, none⟩ m c (news.map wd) hl hnews (cells_wd news) h63 (by rw [hz2]; omega) hB
  refine ⟨v', w', hrun, ?_, h3⟩
  unfold OwW
  rw [hz1] at h2
  simpa [hm] using h2
/-- 'append(x, ys...)' of words, as one step of a region that draws. -/
theorem step_ontoW {ops : Array Oper} {o : Oper} {a : Act} {K : Act → World → Prop} {Q : Exit → Act → World → Prop} {E : Prop} {wr w0 : World} {B : Nat} {v : Value} {l : List Int} (hgd : Region.wanted o (yielded ops a.tmps) = true) (s x : Operand)
    (ho : o.op = .call { callee := .builtin .append, args := #[s, x], argTypes := #[90, 90] }) (hs : a.eval s = v) {q m c : Nat} {t : TypeId} {news : List Int} {ex : List Value} (hx : a.eval x = .slice (some ⟨q, 0, none⟩) m c) (hb : Blk wr q t (news.map wd ++ ex)) (hm : news.length = m) (hown : OwW wr B v l)
    (hlen : l.length + m ≤ 1000000000) (hB : B ≤ wr.heap.size) (hbel : Below B w0 wr)
    (h : ∀ v' w', Hid (OwW w' B v' (l ++ news)) → Hid (Below B w0 w') → Hid (wr.grownBy w' v.ownBlock) → K (a.put o.dst v') w') : if Region.wanted o (yielded ops a.tmps) = true then o.wp Tryd.prog a wr K Q else E := by
  rw [if_pos hgd]
  obtain ⟨v', w', hrun, h2, h3⟩ := run_ontoW hown o.type (c := c) hb hm hlen hB
  unfold Oper.wp execOp
  simp only [ho, resolve, invoke, builtin, Sem.run_bind, Sem.run_pure, Result.andThen_ok, List.map_toArray, List.map_cons, List.map_nil, hs, hx, hrun]
  exact h v' w' h2 (hbel.grown h3 hB fun k hk => (World.ownsRow.lt hown k hk).1) h3
/-- The same where nothing is drawn. -/
theorem ontoWords_law {ops : Array Oper} {rest : List Oper} {o : Oper} {a : Act} {Q : Exit → Act → World → Prop} {wr w0 : World} {B : Nat} {v : Value} {l : List Int} (hgd : o.guard = none) (s x : Operand)
    (ho : o.op = .call { callee := .builtin .append, args := #[s, x], argTypes := #[90, 90] }) (hs : a.eval s = v) {q m c : Nat} {t : TypeId} {news : List Int} {ex : List Value} (hx : a.eval x = .slice (some ⟨q, 0, none⟩) m c) (hb : Blk wr q t (news.map wd ++ ex)) (hm : news.length = m) (hown : OwW wr B v l)
    (hlen : l.length + m ≤ 1000000000) (hB : B ≤ wr.heap.size) (hbel : Below B w0 wr)
    (h : ∀ v' w', Hid (OwW w' B v' (l ++ news)) → Hid (Below B w0 w') → Hid (wr.grownBy w' v.ownBlock) → wpList Tryd.prog ops Q rest (a.put o.dst v') w') : wpList Tryd.prog ops Q (o :: rest) a wr :=
  wpList_step fun K hK => step_ontoW (by simp [Region.wanted, hgd]) s x ho hs hx hb hm hown hlen hB hbel (fun v' w' h2 h3 h4 => hK _ _ (h v' w' h2 h3 h4))
end Go.Proofs.YtpbfeobifpmjbaaDoor
/- The contract of the document's Block of ChaCha20. -/
namespace Go.Proofs.YtpbfeobifpmjbaaDoor
set_option linter.unusedVariables false
set_option linter.unusedSimpArgs false
set_option maxRecDepth 100000
open Go.RowKit

/-- The cells of n bytes of which the first stand. -/
def rowC (p : List UInt8) (n : Nat) : List Value := p.map cellOf ++ List.replicate (n - p.length) (.int .u8 0)
theorem rowC_at (p : List UInt8) (n k : Nat) (hk : p.length = k) (h : k < n) : (rowC p n)[k]? = some (.int .u8 0) := by
  unfold rowC
  rw [List.getElem?_append_right (by simp; omega)]
  simp only [List.length_map, hk, Nat.sub_self]
  exact List.getElem?_replicate_of_lt (by omega)
theorem rowC_set (p : List UInt8) (n k : Nat) (y : UInt8) (hk : p.length = k) (h : k < n) : (rowC p n).set k (cellOf y) = rowC (p ++ [y]) n := by
  unfold rowC
  obtain ⟨j, hj⟩ : ∃ j, n - k = j + 1 := ⟨n - k - 1, by omega⟩
  have hj' : n - (p ++ [y]).length = j := by simp; omega
  rw [hj', hk, hj, List.set_append_right _ _ (by simp; omega)]
  simp [List.replicate_succ, hk]
theorem rowC_full (p : List UInt8) (n : Nat) (h : p.length = n) : rowC p n = p.map cellOf := by unfold rowC; rw [h]; simp
theorem bytesL_at (z : Int) : ∀ j : Nat, j < 4 → (Cha.bytesL z).take (j + 1) = (Cha.bytesL z).take j ++ [Sha.by8 (z / 2 ^ (8 * j))]
  | 0, _ => by simp [Cha.bytesL]
  | 1, _ => by simp [Cha.bytesL]
  | 2, _ => by simp [Cha.bytesL]
  | 3, _ => by simp [Cha.bytesL]

end Go.Proofs.YtpbfeobifpmjbaaDoor
/- The contract of the document's Xor of ChaCha20. -/
namespace Go.Proofs.YtpbfeobifpmjbaaDoor
set_option linter.unusedVariables false
set_option linter.unusedSimpArgs false
set_option maxRecDepth 100000
open Go.RowKit

/-- The stream's bytes from a on up to m. -/
def strm (key : List UInt8) (ctr : Int) (nonce : List UInt8) (a m : Nat) : List UInt8 := (List.range' a (m - a)).map (Cha.stream key ctr nonce)
theorem strm_nil (key : List UInt8) (ctr : Int) (nonce : List UInt8) (a : Nat) : strm key ctr nonce a a = [] := by simp [strm]
theorem strm_length (key : List UInt8) (ctr : Int) (nonce : List UInt8) (a m : Nat) : (strm key ctr nonce a m).length = m - a := by simp [strm]
theorem strm_cons (key : List UInt8) (ctr : Int) (nonce : List UInt8) (a m : Nat) (h : a < m) : strm key ctr nonce a m = Cha.stream key ctr nonce a :: strm key ctr nonce (a + 1) m := by
  unfold strm
  rw [show m - a = (m - (a + 1)) + 1 by omega, List.range'_succ, List.map_cons]
theorem take_map (l : List UInt8) (f : Nat → UInt8) (k e : Nat) (hl : l.length = 64) (he : e ≤ 64) (hf : ∀ i, i < 64 → f (k + i) = l.getD i 0) : l.take e = (List.range' k e).map f := by
  apply List.ext_getElem
  · simp [hl]; omega
  · intro i h1 h2
    have hi : i < e := by simpa using h2
    rw [List.getElem_take, List.getElem_map, List.getElem_range', Nat.one_mul, hf i (by omega)]
    simp [List.getD_eq_getElem?_getD, List.getElem?_eq_getElem (show i < l.length by omega)]
theorem stream_at (key : List UInt8) (ctr : Int) (nonce : List UInt8) (k i j : Nat) (h1 : (k + i) / 64 = j) (h2 : (k + i) % 64 = i) : Cha.stream key ctr nonce (k + i) = (Cha.block key (Cha.ctrAt ctr j) nonce).getD i 0 := by
  unfold Cha.stream
  rw [h1, h2]
theorem strm_block (key : List UInt8) (ctr : Int) (nonce : List UInt8) (k e : Nat) (hk : k % 64 = 0) (he : e ≤ 64) : (Cha.block key (Cha.ctrAt ctr (k / 64)) nonce).take e = strm key ctr nonce k (k + e) := by
  unfold strm
  rw [Nat.add_sub_cancel_left]
  exact take_map _ _ k e (Cha.block_length key (Cha.ctrAt ctr (k / 64)) nonce) he (fun i hi => stream_at key ctr nonce k i (k / 64) (by omega) (by omega))
theorem block_rd {w : World} {g : Nat} {t : TypeId} {l : List UInt8} {E : List Value} (hb : Blk w g t E) (hE : E = l.map cellOf) (hl : l.length = 64) (e : Nat) (he : e ≤ 64) : Rd w (some ⟨g, 0, none⟩) e 64 (l.take e) := by
  subst hE
  exact Rd.of_block hb (by rw [List.length_take, hl]; omega) he (by unfold maxLen; omega) (fun j hj => by
    rw [Nat.zero_add]
    simp [cellOf, List.getD_eq_getElem?_getD, List.getElem?_take, hj, List.getElem?_eq_getElem (show j < l.length by omega)])
/-- A byte of a row is turned. -/
theorem Ow.more {w : World} {B B' : Nat} {v : Value} {l : List UInt8} (h : Ow w B v l) (hB : B' ≤ B) : Ow w B' v l := by
  refine ⟨h.1, ?_⟩
  rcases h.2 with ⟨rfl, h2⟩ | ⟨g, cap, cur, rfl, hb, hg, h3⟩
  · exact .inl ⟨rfl, h2⟩
  · exact .inr ⟨g, cap, cur, rfl, Nat.le_trans hB hb, hg, h3⟩
theorem Ow.set_at {w : World} {B g n c k : Nat} {l : List UInt8} (h : Ow w B (.slice (some ⟨g, 0, none⟩) n c) l) (hk : k < l.length) (y : UInt8) : Ow (w.setCell ⟨g, k, none⟩ (cellOf y)) B (.slice (some ⟨g, 0, none⟩) n c) (l.set k y) := by
  have h1 := h.1
  rcases h.2 with ⟨h', _⟩ | ⟨g', cap', cur, h', hb, hg, hnc, hcm, hcs, htake⟩
  · simp at h'
  · simp only [Value.slice.injEq, Option.some.injEq, Addr.mk.injEq, and_true, true_and] at h'
    obtain ⟨rfl, rfl, rfl⟩ := h'
    have hB : Blk w g 5 cur.toList := by unfold Blk; rw [Array.toArray_toList]; exact hg
    have hB' := hB.set_ k (cellOf y)
    refine ⟨by simp, .inr ⟨g, c, (cur.toList.set k (cellOf y)).toArray, ?_, hb, hB', ?_, hcm, ?_, ?_⟩⟩
    · rw [List.length_set]
    · rw [List.length_set]; exact hnc
    · simpa using hcs
    · rw [List.length_set, List.map_set, ← htake]
      simp [List.take_set]

end Go.Proofs.YtpbfeobifpmjbaaDoor
