import Derived.Test.YtajgjeialbgijaaDoorSPhase
import Derived.Test.YtajgjeialbgijaaDoorSGref1
import Derived.Test.YtajgjeialbgijaaDoorSNput
namespace Go.Proofs.YtajgjeialbgijaaDoor.Vs
set_option linter.unusedVariables false
set_option linter.unusedSimpArgs false
set_option maxRecDepth 100000
def top:Int:=9223372036854775807
def In (z:Int):Prop:=-9223372036854775808<=z/\z<=9223372036854775807
instance (z:Int):Decidable (In z):=by unfold In; infer_instance
structure V where
 client:Int
 n:Int
 count:Int
 prev:List UInt8
 root:List UInt8
 ep:Int
 vec:List Int
 tag:List UInt8
theorem V.eq_iff (a b:V):(a.client=b.client/\a.n=b.n/\a.count=b.count/\a.prev=b.prev/\a.root=b.root/\a.ep=b.ep/\a.vec=b.vec/\a.tag=b.tag) ↔ a=b:=by
 cases a
 cases b
 simp
instance:DecidableEq V:=fun a b=>decidable_of_iff _ (V.eq_iff a b)
def no32:List UInt8:=List.replicate 32 0
def zero:V:=⟨0,0,0,no32,no32,0,[0,0,0,0],no32⟩
structure Ok (v:V):Prop where
 prev:v.prev.length=32
 root:v.root.length=32
 vec:v.vec.length=4
 tag:v.tag.length=32
 client:In v.client
 n:In v.n
 count:In v.count
 ep:In v.ep
 each:∀ z ∈ v.vec,In z
theorem zero_ok:Ok zero:=⟨rfl,rfl,rfl,rfl,by decide,by decide,by decide,by decide,by decide⟩
def enc (z:Int):List UInt8:=Num.enc (Num.zig z)
def encs:List Int->List UInt8
 | []=>[]
 | z :: l=>enc z ++ encs l
theorem enc_len {z:Int} (h:In z):(enc z).length<=10:=Num.enc_len10 (Num.zig_lt z h.1 h.2)
theorem encs_app:∀ (l r:List Int),encs (l ++ r)=encs l ++ encs r
 | [],r=>rfl
 | z :: l,r=>by simp [encs,encs_app l r]
theorem encs_len:∀ {l:List Int},(∀ z ∈ l,In z)->(encs l).length<=10 * l.length
 | [],_=>by simp [encs]
 | z :: l,h=>by
  have h1:=enc_len (h z (by simp))
  have h2:=encs_len (l:=l) (fun y hy=>h y (by simp [hy]))
  simp only [encs,List.length_append,List.length_cons]
  omega
theorem encs_pos {z:Int} {l:List Int}:0 < (encs (z :: l)).length:=by
 have:=Num.enc_pos (Num.zig z)
 simp only [encs,enc,List.length_append]
 omega
def parts (v:V):List (List UInt8):=[encs [v.client,v.n,v.count],v.prev,v.root,encs [v.ep],encs v.vec]
def vbytes (v:V):List UInt8:=(parts v).flatten
theorem bytes_len {v:V} (h:Ok v):(vbytes v).length<=200:=by
 have h1:=encs_len (l:=[v.client,v.n,v.count]) (by intro z hz; simp at hz; rcases hz with rfl | rfl | rfl; exact h.client; exact h.n; exact h.count)
 have h2:=encs_len (l:=[v.ep]) (by intro z hz; simp at hz; subst hz; exact h.ep)
 have h3:=encs_len h.each
 have h4:=h.vec
 have h5:=h.prev
 have h6:=h.root
 simp only [vbytes,parts,List.flatten_cons,List.flatten_nil,List.length_append,List.length_nil,List.length_cons] at *
 omega
theorem bytes_pos (v:V):0 < (vbytes v).length:=by
 have:=encs_pos (z:=v.client) (l:=[v.n,v.count])
 simp only [vbytes,parts,List.flatten_cons,List.length_append] at *
 omega
def vhash (v:V):List UInt8:=if v=zero then no32 else Sha.sum (vbytes v ++ v.tag)
theorem hash_length (v:V):(vhash v).length=32:=by
 unfold vhash
 split
 ·rfl
 ·exact Sha.sum_length _
def isC (c:Int):Bool:=decide (1<=c/\c<=4)
def mine (v:V) (c:Int):Int:=v.vec.getD (c.toNat - 1) 0
def next (last:V) (c:Int):V :=
 if isC c=true/\mine last c ≠ top/\last.count ≠ top then
  ⟨c,mine last c + 1,last.count + 1,vhash last,last.root,last.ep,last.vec.set (c.toNat - 1) (mine last c + 1),no32⟩
 else zero
def epF (a b:Int):Bool:=decide (b=a ∨ (a ≠ top/\b=a + 1))
def follows (last v:V):Bool:=isC v.client && (epF last.ep v.ep && decide (v={ next last v.client with root:=v.root,ep:=v.ep,tag:=v.tag }))
def lim (n least:Int):Bool:=decide (least<=n/\n<=150)
def may (v:V):Bool:=v.vec.all (fun z=>lim z 0) && (isC v.client && (lim v.n 1 && (lim v.count 1 && lim v.ep 0)))
theorem mine_in {v:V} (h:Ok v) (c:Int):In (mine v c):=by
 unfold mine
 rw [List.getD_eq_getElem?_getD]
 cases e:v.vec[c.toNat - 1]? with
 | none=>simp [In]
 | some z=>exact h.each z (List.mem_of_getElem? e)
theorem next_ok {last:V} (h:Ok last) (c:Int):Ok (next last c):=by
 unfold next
 split
 ·rename_i hc
  obtain ⟨h1,h2,h3⟩:=hc
  have h4:=mine_in h c
  have h5:=h.count
  simp only [isC,decide_eq_true_iff] at h1
  unfold In top at *
  have h6:In (mine last c + 1):=by unfold In; omega
  refine ⟨hash_length _,h.root,by simp [h.vec],rfl,⟨by show _<=c; omega,by show c<=_; omega⟩,h6,⟨by show _<=last.count + 1; omega,by show last.count + 1<=_; omega⟩,h.ep,?_⟩
  intro z hz
  rcases List.mem_or_eq_of_mem_set hz with hz | rfl
  ·exact h.each z hz
  ·exact h6
 ·exact zero_ok
def V.cells (v:V):List Value:=.int .i64 v.client :: .int .i64 v.n :: .int .i64 v.count :: (v.prev.map cellOf ++ (v.root.map cellOf ++ (.int .i64 v.ep :: (v.vec.map iv ++ v.tag.map cellOf))))
theorem lay_prev {v:V} (h:Ok v) (j:Nat) (x:Value) (hx:(v.prev.map cellOf)[j]?=some x):v.cells[3 + j]?=some x:=by
 have hj:=(List.getElem?_eq_some_iff.1 hx).1
 unfold V.cells
 rw [show 3 + j=j + 1 + 1 + 1 by omega,List.getElem?_cons_succ,List.getElem?_cons_succ,List.getElem?_cons_succ,List.getElem?_append_left hj,hx]
section
variable {v:V} (h:Ok v)
include h
theorem cells_length:v.cells.length=104:=by simp [V.cells,h.prev,h.root,h.vec,h.tag]
theorem at_ep:v.cells[67]?=some (.int .i64 v.ep):=by
 unfold V.cells
 rw [show (67:Nat)=64 + 1 + 1 + 1 from rfl,List.getElem?_cons_succ,List.getElem?_cons_succ,List.getElem?_cons_succ,List.getElem?_append_right (by simp [h.prev]),List.getElem?_append_right (by simp [h.prev,h.root])]
 simp [h.prev,h.root]
theorem lay_root (j:Nat) (x:Value) (hx:(v.root.map cellOf)[j]?=some x):v.cells[35 + j]?=some x:=by
 have hj:=(List.getElem?_eq_some_iff.1 hx).1
 have hp:=h.prev
 unfold V.cells
 rw [show 35 + j=32 + j + 1 + 1 + 1 by omega,List.getElem?_cons_succ,List.getElem?_cons_succ,List.getElem?_cons_succ,List.getElem?_append_right (by simp; omega),List.getElem?_append_left (by simp only [List.length_map] at *; omega)]
 rw [<- hx]
 congr 1
 simp [hp]
theorem lay_vec (j:Nat) (x:Value) (hx:(v.vec.map iv)[j]?=some x):v.cells[68 + j]?=some x:=by
 have hj:=(List.getElem?_eq_some_iff.1 hx).1
 have hp:=h.prev
 have hr:=h.root
 unfold V.cells
 rw [show 68 + j=65 + j + 1 + 1 + 1 by omega,List.getElem?_cons_succ,List.getElem?_cons_succ,List.getElem?_cons_succ,List.getElem?_append_right (by simp; omega),List.getElem?_append_right (by simp; omega)]
 rw [show 65 + j - (v.prev.map cellOf).length - (v.root.map cellOf).length=j + 1 by simp [hp,hr]; omega,List.getElem?_cons_succ,List.getElem?_append_left hj,hx]
theorem lay_tag (j:Nat) (x:Value) (hx:(v.tag.map cellOf)[j]?=some x):v.cells[72 + j]?=some x:=by
 have hj:=(List.getElem?_eq_some_iff.1 hx).1
 have hp:=h.prev
 have hr:=h.root
 have hv:=h.vec
 unfold V.cells
 rw [show 72 + j=69 + j + 1 + 1 + 1 by omega,List.getElem?_cons_succ,List.getElem?_cons_succ,List.getElem?_cons_succ,List.getElem?_append_right (by simp; omega),List.getElem?_append_right (by simp; omega)]
 rw [show 69 + j - (v.prev.map cellOf).length - (v.root.map cellOf).length=4 + j + 1 by simp [hp,hr]; omega,List.getElem?_cons_succ,List.getElem?_append_right (by simp; omega)]
 rw [<- hx]
 congr 1
 simp [hv]
theorem set_ep (z:Int):v.cells.set 67 (.int .i64 z)=({ v with ep:=z }:V).cells:=by
 unfold V.cells
 rw [show (67:Nat)=64 + 1 + 1 + 1 from rfl,List.set_cons_succ,List.set_cons_succ,List.set_cons_succ,List.set_append_right _ _ (by simp [h.prev]),List.set_append_right _ _ (by simp [h.prev,h.root])]
 simp [h.prev,h.root]
theorem set_prev (j:Nat) (y:UInt8) (hj:j < 32):v.cells.set (3 + j) (cellOf y)=({ v with prev:=v.prev.set j y }:V).cells:=by
 have hp:=h.prev
 unfold V.cells
 rw [show 3 + j=j + 1 + 1 + 1 by omega,List.set_cons_succ,List.set_cons_succ,List.set_cons_succ,List.set_append_left _ _ (by simp; omega)]
 simp
theorem set_root (j:Nat) (y:UInt8) (hj:j < 32):v.cells.set (35 + j) (cellOf y)=({ v with root:=v.root.set j y }:V).cells:=by
 have hp:=h.prev
 have hr:=h.root
 unfold V.cells
 rw [show 35 + j=32 + j + 1 + 1 + 1 by omega,List.set_cons_succ,List.set_cons_succ,List.set_cons_succ,List.set_append_right _ _ (by simp; omega),List.set_append_left _ _ (by simp; omega)]
 simp [hp]
theorem set_vec (j:Nat) (z:Int) (hj:j < 4):v.cells.set (68 + j) (.int .i64 z)=({ v with vec:=v.vec.set j z }:V).cells:=by
 have hp:=h.prev
 have hr:=h.root
 have hv:=h.vec
 unfold V.cells
 rw [show 68 + j=65 + j + 1 + 1 + 1 by omega,List.set_cons_succ,List.set_cons_succ,List.set_cons_succ,List.set_append_right _ _ (by simp; omega),List.set_append_right _ _ (by simp; omega)]
 rw [show 65 + j - (v.prev.map cellOf).length - (v.root.map cellOf).length=j + 1 by simp [hp,hr]; omega,List.set_cons_succ,List.set_append_left _ _ (by simp; omega)]
 simp [iv]
theorem set_tag (j:Nat) (y:UInt8) (hj:j < 32):v.cells.set (72 + j) (cellOf y)=({ v with tag:=v.tag.set j y }:V).cells:=by
 have hp:=h.prev
 have hr:=h.root
 have hv:=h.vec
 unfold V.cells
 rw [show 72 + j=69 + j + 1 + 1 + 1 by omega,List.set_cons_succ,List.set_cons_succ,List.set_cons_succ,List.set_append_right _ _ (by simp; omega),List.set_append_right _ _ (by simp; omega)]
 rw [show 69 + j - (v.prev.map cellOf).length - (v.root.map cellOf).length=4 + j + 1 by simp [hp,hr]; omega,List.set_cons_succ,List.set_append_right _ _ (by simp; omega)]
 simp [hv]
theorem put_root (r:List UInt8) (hl:r.length=32):v.cells.take 35 ++ r.map cellOf ++ v.cells.drop (35 + (r.map cellOf).length)=({ v with root:=r }:V).cells:=by
 have hp:=h.prev
 have hr:=h.root
 have e:v.cells=(.int .i64 v.client :: .int .i64 v.n :: .int .i64 v.count :: v.prev.map cellOf) ++ (v.root.map cellOf ++ (.int .i64 v.ep :: (v.vec.map iv ++ v.tag.map cellOf))):=by simp [V.cells]
 rw [e,List.take_left' (by simp [hp]),<- List.drop_drop,List.drop_left' (by simp [hp]),List.drop_left' (by simp [hr,hl])]
 simp [V.cells]
theorem put_tag (r:List UInt8) (hl:r.length=32):v.cells.take 72 ++ r.map cellOf ++ v.cells.drop (72 + (r.map cellOf).length)=({ v with tag:=r }:V).cells:=by
 have e:v.cells=(.int .i64 v.client :: .int .i64 v.n :: .int .i64 v.count :: (v.prev.map cellOf ++ (v.root.map cellOf ++ (.int .i64 v.ep :: v.vec.map iv)))) ++ v.tag.map cellOf:=by simp [V.cells]
 rw [e,List.take_left' (by simp [h.prev,h.root,h.vec]),<- List.drop_drop,List.drop_left' (by simp [h.prev,h.root,h.vec]),List.drop_of_length_le (by simp [h.tag,hl])]
 simp [V.cells]
end
theorem cells_one (v:V):∀ u ∈ v.cells,u.oneCell'=true:=fun u hu=>by
 simp only [V.cells,List.mem_cons,List.mem_append] at hu
 rcases hu with rfl | rfl | rfl | hu | hu | rfl | hu | hu
 ·rfl
 ·rfl
 ·rfl
 ·exact cells_u8 _ u hu
 ·exact cells_u8 _ u hu
 ·rfl
 ·exact cells_iv _ u hu
 ·exact cells_u8 _ u hu
end Go.Proofs.YtajgjeialbgijaaDoor.Vs
namespace Go.Proofs.YtajgjeialbgijaaDoor
set_option linter.unusedVariables false
set_option linter.unusedSimpArgs false
set_option maxRecDepth 100000
open Go.RowKit Vs
def vval (v:V):Value:=.agg v.cells.toArray
theorem vinfo {v:V} (h:Ok v):(Tryd.prog.info? 30).map (·.size)=some v.cells.length:=by rw [cells_length h]; kernel_rfl
theorem vbuilt0:Tryd.prog.built 30 []=some zero.cells.toArray:=by kernel_rfl
theorem Blk.tag {w:World} {g:Nat} {v:V} (h:Ok v) (hb:Blk w g 30 v.cells):Rd w (some ⟨g,72,none⟩) 32 32 v.tag :=
 Rd.of_block hb h.tag (Nat.le_refl _) (by unfold maxLen; omega) (fun j hj=>lay_tag h j _ (by rw [List.getElem?_map,List.getElem?_eq_getElem (by rw [h.tag]; exact hj),Option.map_some,List.getD_eq_getElem?_getD,List.getElem?_eq_getElem (by rw [h.tag]; exact hj)]; rfl))
theorem Blk.prev {w:World} {g:Nat} {v:V} (h:Ok v) (hb:Blk w g 30 v.cells):Rd w (some ⟨g,3,none⟩) 32 32 v.prev :=
 Rd.of_block hb h.prev (Nat.le_refl _) (by unfold maxLen; omega) (fun j hj=>lay_prev h j _ (by rw [List.getElem?_map,List.getElem?_eq_getElem (by rw [h.prev]; exact hj),Option.map_some,List.getD_eq_getElem?_getD,List.getElem?_eq_getElem (by rw [h.prev]; exact hj)]; rfl))
theorem Blk.root {w:World} {g:Nat} {v:V} (h:Ok v) (hb:Blk w g 30 v.cells):Rd w (some ⟨g,35,none⟩) 32 32 v.root :=
 Rd.of_block hb h.root (Nat.le_refl _) (by unfold maxLen; omega) (fun j hj=>lay_root h j _ (by rw [List.getElem?_map,List.getElem?_eq_getElem (by rw [h.root]; exact hj),Option.map_some,List.getD_eq_getElem?_getD,List.getElem?_eq_getElem (by rw [h.root]; exact hj)]; rfl))
theorem Blk.vec {w:World} {g:Nat} {v:V} (h:Ok v) (hb:Blk w g 30 v.cells):RdI w (some ⟨g,68,none⟩) 4 v.vec :=
 ⟨h.vec,fun _=>⟨g,68,rfl,hb.lt,fun j hj=>by
  rw [hb.cell]
  exact lay_vec h j _ (by simp [iv,List.getD_eq_getElem?_getD,List.getElem?_eq_getElem (show j < v.vec.length by rw [h.vec]; exact hj)])⟩⟩
theorem Blk.at_ {w:World} {g:Nat} {t:TypeId} {cs l:List Value} {o:Nat} (hb:Blk w g t cs) (h:∀ j x,l[j]?=some x->cs[o + j]?=some x):∀ j x,l[j]?=some x->w.cell? ⟨g,o + j,none⟩=some x:=fun j x hx=>by rw [hb.cell]; exact h j x hx
theorem equalH (d:Nat) (l r:List UInt8) (hl:l.length=32) (hr:r.length=32) (w:World):(Op.equalIn (d + 2) 27 (.agg (l.map cellOf).toArray) (.agg (r.map cellOf).toArray)).run Tryd.prog w = .ok (decide (l=r)) w:=by
 obtain ⟨i0,hi,hz0,hz1,hz2⟩:=info_parts info5
 rw [run_equalIn_array w (d + 1) _ _ Tryd.underlying27 hi,c5,eqItems_bytes w d l r (List.range 32) (fun i hi=>by have:=List.mem_range.1 hi; omega)]
 congr 1
 rw [Bool.eq_iff_iff,decide_eq_true_iff,decide_eq_true_iff]
 constructor
 ·intro h
  apply List.ext_getElem (by omega)
  intro i h1 h2
  have:=h i (List.mem_range.2 (by omega))
  simpa [List.getD_eq_getElem?_getD,List.getElem?_eq_getElem h1,List.getElem?_eq_getElem h2] using this
 ·intro h i _
  rw [h]
theorem c2:Tryd.prog.cellsOf 2=1:=by kernel_rfl
theorem info2:(Tryd.prog.info? 2).map (fun i=>(i.zero,i.size,i.bytes))=some (some (.int .i64 0),1,8):=by kernel_rfl
theorem part2 (w:World) (l:List Int) (i:Nat) (h:i < l.length):(part 2 (l.map iv).toArray i).run Tryd.prog w = .ok (.int .i64 (l.getD i 0)) w:=by
 have ha:(isAgg 2).run Tryd.prog w = .ok false w:=by simp [isAgg,run_underlying Tryd.underlying2]
 simp only [part,Sem.run_bind,ha,Result.andThen_ok]
 simp [iv,List.getD_eq_getElem?_getD,List.getElem?_eq_getElem h]
theorem eqItems_ints (w:World) (dd:Nat) (l r:List Int):∀ (is:List Nat),(∀ i ∈ is,i < l.length/\i < r.length) ->
  (Op.eqItems (dd + 1) 2 1 (l.map iv).toArray (r.map iv).toArray is).run Tryd.prog w = .ok (decide (∀ i ∈ is,l.getD i 0=r.getD i 0)) w
 | [],_=>by simp [Op.eqItems]
 | i :: is,h=>by
  have hi:=h i (by simp)
  have ih:=eqItems_ints w dd l r is (fun j hj=>h j (by simp [hj]))
  have hq:(Op.equalIn (dd + 1) 2 (.int .i64 (l.getD i 0)) (.int .i64 (r.getD i 0))).run Tryd.prog w = .ok (l.getD i 0 == r.getD i 0) w:=by
   rw [run_equalIn_int w dd 2 .i64 .i64 _ _ Tryd.underlying2]
  have hii:i * 1=i:=Nat.mul_one i
  simp only [Op.eqItems,Sem.run_bind,hii,part2 w l i hi.1,part2 w r i hi.2,Result.andThen_ok,hq]
  by_cases he:l.getD i 0=r.getD i 0
  ·have hb:(l.getD i 0 == r.getD i 0)=true:=by rw [he]; exact beq_self_eq_true _
   rw [hb]
   simp only [Bool.not_true,Bool.false_eq_true,if_false]
   rw [ih]
   congr 1
   rw [Bool.eq_iff_iff,decide_eq_true_iff,decide_eq_true_iff,List.forall_mem_cons]
   exact ⟨fun h=>⟨he,h⟩,fun h=>h.2⟩
  ·have hb:(l.getD i 0 == r.getD i 0)=false:=by simpa using he
   rw [hb]
   have hd:decide (∀ j ∈ i :: is,l.getD j 0=r.getD j 0)=false:=by
    rw [decide_eq_false_iff_not]
    exact fun hall=>he (hall i (by simp))
   rw [hd]
   rfl
theorem equalI (d:Nat) (l r:List Int) (hl:l.length=4) (hr:r.length=4) (w:World):(Op.equalIn (d + 2) 28 (.agg (l.map iv).toArray) (.agg (r.map iv).toArray)).run Tryd.prog w = .ok (decide (l=r)) w:=by
 obtain ⟨i0,hi,hz0,hz1,hz2⟩:=info_parts info2
 rw [run_equalIn_array w (d + 1) _ _ Tryd.underlying28 hi,c2,eqItems_ints w d l r (List.range 4) (fun i hi=>by have:=List.mem_range.1 hi; omega)]
 congr 1
 rw [Bool.eq_iff_iff,decide_eq_true_iff,decide_eq_true_iff]
 constructor
 ·intro h
  apply List.ext_getElem (by omega)
  intro i h1 h2
  have:=h i (List.mem_range.2 (by omega))
  simpa [List.getD_eq_getElem?_getD,List.getElem?_eq_getElem h1,List.getElem?_eq_getElem h2] using this
 ·intro h i _
  rw [h]
theorem part_cell {P:Program} {w:World} {t:TypeId} {xs:List Value} {o:Nat} {x:Value} (ha:(isAgg t).run P w = .ok false w) (hx:xs[o]?=some x):(part t xs.toArray o).run P w = .ok x w:=by
 simp only [part,Sem.run_bind,ha,Result.andThen_ok]
 simp [hx]
theorem part_agg {P:Program} {w:World} {t:TypeId} {xs l:List Value} {o n:Nat} (ha:(isAgg t).run P w = .ok true w) (hs:(sizeOf t).run P w = .ok n w) (hn:l.length=n) (hx:∀ j x,l[j]?=some x->xs[o + j]?=some x):(part t xs.toArray o).run P w = .ok (.agg l.toArray) w:=by
 have e:(xs.drop o).take n=l:=by
  apply List.ext_getElem?
  intro j
  by_cases hj:j < n
  ·rw [List.getElem?_take_of_lt hj,List.getElem?_drop,hx j l[j] (List.getElem?_eq_getElem (by omega)),List.getElem?_eq_getElem (by omega)]
  ·rw [List.getElem?_eq_none (by simp; omega),List.getElem?_eq_none (by omega)]
 simp only [part,Sem.run_bind,ha,Result.andThen_ok,if_true,hs,Sem.run_pure]
 congr 2
 rw [<- e]
 simp [List.extract_eq_take_drop]
theorem eq_step {P : Program} {w : World} {d : Nat} {xs ys : Array Value} {f : Field} {fs : List Field} {x y : Value} {r s : Bool} (hn : f.name ≠ "_") (px : (part f.type xs f.offset).run P w = .ok x w) (py : (part f.type ys f.offset).run P w = .ok y w) (he : (Op.equalIn d f.type x y).run P w = .ok r w) (hs : (Op.eqFields d xs ys fs).run P w = .ok s w) :
  (Op.eqFields d xs ys (f :: fs)).run P w = .ok (r && s) w:=by
 simp only [Op.eqFields,hn,ne_eq,not_false_eq_true,if_true,Sem.run_bind,px,py,he,Result.andThen_ok]
 cases r
 ·simp
 ·simpa using hs
theorem agg_no (t:TypeId) (d:TypeDesc) (hu:Tryd.prog.underlying t=some d) (hd:(match d with | .struct _ | .array _ _=>true | _=>false)=false) (w:World):(isAgg t).run Tryd.prog w = .ok false w:=by
 simp only [isAgg,Sem.run_bind,run_underlying hu,Result.andThen_ok]
 cases d <;> simp_all
theorem agg_yes (t:TypeId) (d:TypeDesc) (hu:Tryd.prog.underlying t=some d) (hd:(match d with | .struct _ | .array _ _=>true | _=>false)=true) (w:World):(isAgg t).run Tryd.prog w = .ok true w:=by
 simp only [isAgg,Sem.run_bind,run_underlying hu,Result.andThen_ok]
 cases d <;> simp_all
theorem int_eq (t:TypeId) (d:Nat) (hu:Tryd.prog.underlying t=some (.int .i64)) (x y:Int) (w:World):(Op.equalIn (d + 1) t (.int .i64 x) (.int .i64 y)).run Tryd.prog w = .ok (decide (x=y)) w:=by
 rw [run_equalIn_int w d t .i64 .i64 _ _ hu]
 congr 1
theorem vers_eq {a b:V} (ha:Ok a) (hb:Ok b) (w:World):(Op.equalIn 10000 30 (.agg a.cells.toArray) (.agg b.cells.toArray)).run Tryd.prog w = .ok (decide (a=b)) w:=by
 have hf:Tryd.prog.underlying 30=some (.struct (Tryd.prog.fieldsOf 30)):=by simp only [Program.fieldsOf,Tryd.underlying30]
 rw [run_equalIn_struct w 9999 _ _ _ hf (by kernel_rfl)]
 simp only [Program.fieldsOf,Tryd.underlying30]
 have hH:=agg_yes 27 _ Tryd.underlying27 rfl w
 have hI:=agg_yes 28 _ Tryd.underlying28 rfl w
 have h2:=agg_no 2 _ Tryd.underlying2 rfl w
 have h3:=agg_no 3 _ Tryd.underlying3 rfl w
 have sH:(sizeOf 27).run Tryd.prog w = .ok 32 w:=by kernel_rfl
 have sI:(sizeOf 28).run Tryd.prog w = .ok 4 w:=by kernel_rfl
 have e:decide (a=b)=(decide (a.client=b.client) && (decide (a.n=b.n) && (decide (a.count=b.count) && (decide (a.prev=b.prev) && (decide (a.root=b.root) && (decide (a.ep=b.ep) && (decide (a.vec=b.vec) && (decide (a.tag=b.tag) && true)))))))):=by
  rw [Bool.eq_iff_iff]
  simp only [decide_eq_true_iff,Bool.and_eq_true,and_true]
  exact (V.eq_iff a b).symm
 rw [e]
 refine eq_step (by decide) (part_cell h3 rfl) (part_cell h3 rfl) (int_eq _ 9998 Tryd.underlying3 _ _ w) ?_
 refine eq_step (by decide) (part_cell h2 rfl) (part_cell h2 rfl) (int_eq _ 9998 Tryd.underlying2 _ _ w) ?_
 refine eq_step (by decide) (part_cell h2 rfl) (part_cell h2 rfl) (int_eq _ 9998 Tryd.underlying2 _ _ w) ?_
 refine eq_step (by decide) (part_agg hH sH (by simp [ha.prev]) (lay_prev ha)) (part_agg hH sH (by simp [hb.prev]) (lay_prev hb)) (equalH 9997 _ _ ha.prev hb.prev w) ?_
 refine eq_step (by decide) (part_agg hH sH (by simp [ha.root]) (lay_root ha)) (part_agg hH sH (by simp [hb.root]) (lay_root hb)) (equalH 9997 _ _ ha.root hb.root w) ?_
 refine eq_step (by decide) (part_cell h2 (at_ep ha)) (part_cell h2 (at_ep hb)) (int_eq _ 9998 Tryd.underlying2 _ _ w) ?_
 refine eq_step (by decide) (part_agg hI sI (by simp [ha.vec]) (lay_vec ha)) (part_agg hI sI (by simp [hb.vec]) (lay_vec hb)) (equalI 9997 _ _ ha.vec hb.vec w) ?_
 refine eq_step (by decide) (part_agg hH sH (by simp [ha.tag]) (lay_tag ha)) (part_agg hH sH (by simp [hb.tag]) (lay_tag hb)) (equalH 9997 _ _ ha.tag hb.tag w) ?_
 simp [Op.eqFields]
end Go.Proofs.YtajgjeialbgijaaDoor
