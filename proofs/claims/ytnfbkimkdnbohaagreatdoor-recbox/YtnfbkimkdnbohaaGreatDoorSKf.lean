import Derived.Test.YtnfbkimkdnbohaaGreatDoorSKp
set_option linter.unusedVariables false
set_option linter.unusedSimpArgs false
set_option maxRecDepth 100000
set_option maxHeartbeats 8000000
namespace Go.Proofs.YtnfbkimkdnbohaaGreatDoor
open Go.RowKit
theorem rd_cells_add {w:World} {ad:Addr} {m c:Nat} {news:List UInt8} (hr:Rd w (some ad) m c news) (hm:0 < m):∀ j u,(news.map cellOf)[j]?=some u->w.cell? (ad.add j)=some u:=fun j u hu=>by
 have hj:j < news.length:=by simpa using (List.getElem?_eq_some_iff.1 hu).1
 obtain ⟨b,off,e,_,hc⟩:=hr.at_ hm
 injection e with e
 subst e
 rw [add_plain,hc j (by have:=hr.len; omega),<- hu]
 simp [List.getD_eq_getElem?_getD,List.getElem?_eq_getElem hj]
theorem run_full {w:World} {b ad:Addr} {n m c:Nat} {l news:List UInt8} (ty:TypeId) (ho:Rd w (some b) n n l) (hr:Rd w (some ad) m c news) (h0:0 < n) (hm:0 < m) (hlen:n + m<=1000000) :
  ∃ c' w',(Builtin.append_ #[24,24] ty #[.slice (some b) n n,.slice (some ad) m c]).run Tryz.prog w = .ok (.slice (some ⟨w.heap.size,0,none⟩) (n + m) c') w'/\Rd w' (some ⟨w.heap.size,0,none⟩) (n + m) c' (l ++ news)/\Below w.heap.size w w':=by
 obtain ⟨i0,hi,hz0,hz1,hz2⟩:=info_parts info5
 have hl:=ho.len
 have hn:=hr.len
 have hrun:=run_append_grow (P:=Tryz.prog) w 24 ty 5 i0 (.int .u8 0) Tryz.underlying24 hi hz0 b n n (l.map cellOf) (by rw [hz1]; simpa using hl) (rd_cells_add ho h0) ad m c (news.map cellOf) (by rw [hz1]; simpa using hn) (rd_cells_add hr hm) (by omega) (by omega) (growslice_fits (by omega) (by rw [hz2]; omega))
 have h1:=grownCap_ge w (n + m) n 5
 have h2:=grownCap_le_maxLen w (n + m) n 5 (by unfold maxLen; omega)
 generalize grownCap w (n + m) n 5=cp at *
 refine ⟨cp,_,hrun,?_,(Below.refl _ _).drew.alloc (by show w.heap.size<=w.heap.size; exact Nat.le_refl _) _⟩
 refine Rd.of_block (cs:=((l.map cellOf).toArray ++ (news.map cellOf).toArray ++ Builtin.zeroCells (Value.int .u8 0).cells (cp - (n + m))).toList) (Blk.at_new w.drew w.heap.size 5 _ _ (by simp) rfl) (by simp [hl,hn]) h1 h2 (fun j hj=>?_)
 rw [Nat.zero_add]
 have hj2:j < (l ++ news).length:=by simp [hl,hn]; omega
 have e:((l.map cellOf).toArray ++ (news.map cellOf).toArray ++ Builtin.zeroCells (Value.int .u8 0).cells (cp - (n + m))).toList=(l ++ news).map cellOf ++ (Builtin.zeroCells (Value.int .u8 0).cells (cp - (n + m))).toList:=by simp
 rw [e,List.getElem?_append_left (by simpa using hj2)]
 simp only [List.getElem?_map,List.getD_eq_getElem?_getD,List.getElem?_eq_getElem hj2,Option.map_some,Option.getD_some]
end Go.Proofs.YtnfbkimkdnbohaaGreatDoor
