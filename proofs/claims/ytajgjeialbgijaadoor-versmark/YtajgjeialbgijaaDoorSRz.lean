import Derived.Lib.SmallJoins
import Derived.Deep.Grids
import Derived.Deep.Matrix
import Derived.OpenShut
import Derived.RowKit
import Derived.Test.YtajgjeialbgijaaDoorSGrow
namespace Go.Proofs.YtajgjeialbgijaaDoor
set_option linter.unusedVariables false
set_option linter.unusedSimpArgs false
set_option maxRecDepth 100000
open Go.Joins Go.ChangeShapes Go.WideShapes Go.ChangeAt Go.RowKit
structure RdZ (w:World) (A:Option Addr) (n c:Nat) (zs:List Int):Prop where
 len:zs.length=n
 cap:n<=c
 max:c<=maxLen
 lo:∀ z ∈ zs,-9223372036854775808<=z/\z<=9223372036854775807
 at_:0 < n->∃ b off,A=some ⟨b,off,none⟩/\b < w.heap.size/\∀ j,j < n->w.cell? ⟨b,off + j,none⟩=some (.int .i64 (zs.getD j 0))
theorem RdZ.below {w w':World} {A:Option Addr} {n c:Nat} {zs:List Int} (h:RdZ w A n c zs) (hb:Below w.heap.size w w'):RdZ w' A n c zs :=
 ⟨h.len,h.cap,h.max,h.lo,fun h0=>by
  obtain ⟨b,off,e,hlt,hc⟩:=h.at_ h0
  exact ⟨b,off,e,Nat.lt_of_lt_of_le hlt hb.size,fun j hj=>(World.cell?_of_block (a:=⟨b,off + j,none⟩) (hb.block b hlt)).trans (hc j hj)⟩⟩
theorem rdz_came {w:World} {A:Option Addr} {len cap:Nat} {zs:List Int} (h:(A=none/\len=0/\cap=0/\zs=[]) ∨ ∃ a,A=some a/\len<=cap/\cap<=maxLen/\zs.length=cap/\(∀ c,c < zs.length->w.cell? (a.add c)=some (.int .i64 (zs.getD c 0)))/\∀ n ∈ zs,(Lit.int .i64 n).wf=true) :
  ∃ l,RdZ w A len cap l:=by
 rcases h with ⟨rfl,rfl,rfl,rfl⟩ | ⟨a,rfl,hl,hm,hz,hcell,hwz⟩
 ·exact ⟨[],rfl,Nat.le_refl _,by unfold maxLen; omega,by simp,fun h=>by omega⟩
 ·refine ⟨zs.take len,by rw [List.length_take]; omega,hl,hm,fun z hz'=>?_,fun h0=>?_⟩
  ·simpa [Lit.wf,IntKind.min,IntKind.max,IntKind.signed,IntKind.bits] using hwz z (List.mem_of_mem_take hz')
  ·obtain ⟨b,off,spot⟩:=a
   have hc:=hcell 0 (by omega)
   have hspot:spot=none:=by simpa [Addr.add] using World.cell?_spot hc
   subst hspot
   rw [add_plain] at hc
   refine ⟨b,off,rfl,World.block_lt_of_cell? w _ hc,fun j hj=>?_⟩
   have:=hcell j (by omega)
   rw [add_plain] at this
   rw [this]
   rw [List.getD_eq_getElem?_getD,List.getD_eq_getElem?_getD,List.getElem?_take,if_pos hj]
def RdT (w:World) (A:Option Addr) (n:Nat):Prop:=∀ j,j < n->∃ b off t,A=some ⟨b,off,none⟩/\w.cell? ⟨b,off + j,none⟩=some (.bool t)/\b < w.heap.size
theorem RdT.below {w w':World} {A:Option Addr} {n:Nat} (h:RdT w A n) (hb:Below w.heap.size w w'):RdT w' A n:=fun j hj=>by
 obtain ⟨b,off,t,e,hc,hlt⟩:=h j hj
 exact ⟨b,off,t,e,(World.cell?_of_block (a:=⟨b,off + j,none⟩) (hb.block b hlt)).trans hc,Nat.lt_of_lt_of_le hlt hb.size⟩
theorem bools_in {H:Type} {enc:TypeId × Value->H} {w:World} {fuel:Nat} {A:Option Addr} {n c:Nat} {x:DataW H × List MemPlace} (h:DataW.trod enc Tryd.prog w 0 (fun _=>true) true fuel 23 [.slice A n c]=some x):RdT w A n/\n<=maxLen:=by
 rcases Go.Deep.open_bools Tryd.underlying23 Tryd.underlying4 (by kernel_rfl) h with ⟨hcs,_⟩ | ⟨a,len,cap,B,hcs,_,hl,hm,_,hcell⟩
 ·simp only [List.cons.injEq,and_true,Value.slice.injEq] at hcs
  obtain ⟨rfl,rfl,rfl⟩:=hcs
  exact ⟨fun j hj=>by omega,by unfold maxLen; omega⟩
 ·simp only [List.cons.injEq,and_true,Value.slice.injEq] at hcs
  obtain ⟨rfl,rfl,rfl⟩:=hcs
  refine ⟨fun j hj=>?_,Nat.le_trans hl hm⟩
  obtain ⟨b,off,spot⟩:=a
  have hspot:spot=none:=by simpa [Addr.add] using World.cell?_spot (hcell 0 (by omega))
  subst hspot
  have hc:=hcell j (by omega)
  rw [add_plain] at hc
  exact ⟨b,off,B j,rfl,hc,World.block_lt_of_cell? w ⟨b,off + j,none⟩ hc⟩
def toU8:Value->UInt8
 | .int _ n=>UInt8.ofNat n.toNat
 | _=>0
theorem u8s_in {H:Type} {enc:TypeId × Value->H} {w:World} {b0:Nat} {sp:Nat->Bool} {held:Bool} {fuel:Nat} {cs:List Value} {y:DataW H × List MemPlace} (h:DataW.trod enc Tryd.prog w b0 sp held fuel 27 cs=some y):∃ l:List UInt8,l.length=32/\cs=l.map cellOf:=by
 obtain ⟨xs,m,_,_,hl,hlen,hx⟩:=DataW.trod_array Tryd.underlying27 h
 have hl:cs.length=32:=hl.trans (by kernel_rfl)
 have hc1:Tryd.prog.cellsOf 5=1:=by kernel_rfl
 rw [hc1] at hx
 refine ⟨cs.map toU8,by simpa using hl,?_⟩
 apply List.ext_getElem (by simp)
 intro i h1 h2
 have hxi:=hx i (by omega)
 rw [List.getElem?_eq_getElem (by omega)] at hxi
 obtain ⟨a,ea,_,wa⟩:=DataW.trod_int Tryd.underlying5 hxi
 rw [Nat.mul_one,List.drop_eq_getElem_cons h1] at ea
 have ea:cs[i] = .int .u8 a:=(List.cons.inj ea).1
 have hb:0<=a/\a<=255:=by simpa [Lit.wf,IntKind.min,IntKind.max,IntKind.signed,IntKind.bits] using wa
 rw [List.getElem_map,List.getElem_map,ea]
 show Value.int .u8 a = .int .u8 (((UInt8.ofNat a.toNat).toNat:Nat):Int)
 rw [UInt8.toNat_ofNat']
 congr 1
 omega
end Go.Proofs.YtajgjeialbgijaaDoor
