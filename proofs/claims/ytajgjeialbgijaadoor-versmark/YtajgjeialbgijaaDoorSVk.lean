import Derived.Test.YtajgjeialbgijaaDoorSBegun8
import Derived.Test.YtajgjeialbgijaaDoorSVf
namespace Go.Proofs.YtajgjeialbgijaaDoor
set_option linter.unusedVariables false
set_option linter.unusedSimpArgs false
set_option maxRecDepth 100000
open Go.RowKit Vs
theorem encd (n:Nat) (h:2 * n < 128):enc (n:Int)=[UInt8.ofNat (2 * n)]:=by
 unfold enc
 rw [show Num.zig (n:Int)=2 * n by unfold Num.zig; rw [if_neg (by omega)]; omega,Num.enc_lo h]
theorem enc_0:enc 0=[0]:=encd 0 (by omega)
theorem enc_1:enc 1=[2]:=encd 1 (by omega)
theorem enc_2:enc 2=[4]:=encd 2 (by omega)
theorem sum20:Sha.sum [2,0]=[153,190,94,251,136,202,32,19,189,142,78,176,53,253,66,213,36,84,104,254,154,250,112,216,186,156,28,65,154,72,196,232]:=by kernel_rfl
theorem tape1:Tap.tape 1 0 32=[153,190,94,251,136,202,32,19,189,142,78,176,53,253,66,213,36,84,104,254,154,250,112,216,186,156,28,65,154,72,196,232]:=by
 have h:=Tap.blk_tape 1 0
 rw [show 32 * 0=0 from rfl] at h
 rw [<- h,Tap.blk,show Num.zig 1=2 from rfl,show Num.zig ((0:Nat):Int)=0 from rfl,Num.enc_lo (by omega),Num.enc_lo (by omega)]
 exact sum20
theorem sumA:(Sha.sum [4,2,2,0,0,0,0,0,0,0,0,0,0,0,0,0,0,0,0,0,0,0,0,0,0,0,0,0,0,0,0,0,0,0,0,0,0,0,0,0,0,0,0,0,0,0,0,0,0,0,0,0,0,0,0,0,0,0,0,0,0,0,0,0,0,0,0,0,0,2,0,0,153,190,94,251,136,202,32,19,189,142,78,176,53,253,66,213,36,84,104,254,154,250,112,216,186,156,28,65,154,72,196,232]).getD 0 0=182:=by kernel_rfl
def va0:V:=⟨2,1,1,no32,no32,0,[0,1,0,0],no32⟩
def va:V:={ va0 with tag:=Tap.tape 1 0 32 }
def vb:V:=⟨2,2,2,vhash va,no32,0,[0,2,0,0],no32⟩
def vc:V:={ vb with ep:=1 }
def vd:V:={ vb with count:=3 }
theorem hash_zero:vhash zero=no32:=if_pos rfl
theorem next_zero:next zero 2=va0:=by
 rw [next,if_pos ⟨rfl,by decide,by decide⟩,hash_zero]
 rfl
theorem next_va:next va 2=vb:=by
 rw [next,if_pos ⟨rfl,by decide,by decide⟩]
 rfl
theorem va0_ok:Ok va0:=by rw [<- next_zero]; exact next_ok zero_ok 2
theorem va_ok:Ok va:=signed_ok va0_ok (Tap.tape_length _ _ _)
theorem vb_ok:Ok vb:=by rw [<- next_va]; exact next_ok va_ok 2
theorem vc_ok:Ok vc:=⟨vb_ok.prev,vb_ok.root,vb_ok.vec,vb_ok.tag,vb_ok.client,vb_ok.n,vb_ok.count,by decide,vb_ok.each⟩
theorem vd_ok:Ok vd:=⟨vb_ok.prev,vb_ok.root,vb_ok.vec,vb_ok.tag,vb_ok.client,vb_ok.n,by decide,vb_ok.ep,vb_ok.each⟩
theorem bytes_va:vbytes va ++ va.tag=[4,2,2,0,0,0,0,0,0,0,0,0,0,0,0,0,0,0,0,0,0,0,0,0,0,0,0,0,0,0,0,0,0,0,0,0,0,0,0,0,0,0,0,0,0,0,0,0,0,0,0,0,0,0,0,0,0,0,0,0,0,0,0,0,0,0,0,0,0,2,0,0,153,190,94,251,136,202,32,19,189,142,78,176,53,253,66,213,36,84,104,254,154,250,112,216,186,156,28,65,154,72,196,232]:=by
 show vbytes va0 ++ Tap.tape 1 0 32=_
 rw [tape1]
 simp [vbytes,parts,va0,encs,enc_0,enc_1,enc_2,no32,List.replicate]
theorem va_ne:va ≠ zero:=fun h=>absurd (congrArg V.client h) (by decide)
theorem hash_va_ne:vhash va ≠ no32:=by
 intro h
 rw [vhash,if_neg va_ne,bytes_va] at h
 have:=sumA
 rw [h] at this
 exact absurd this (by decide)
theorem follows_of {last v:V} (hc:isC v.client=true) (h:v={ next last v.client with root:=v.root,ep:=v.ep,tag:=v.tag }):follows last v=epF last.ep v.ep:=by
 unfold follows
 rw [hc,decide_eq_true h]
 simp
theorem follows_next {last:V} {c:Int} (hc:isC c=true) (h1:mine last c ≠ top) (h2:last.count ≠ top) (r t:List UInt8) (e:Int):follows last { next last c with root:=r,ep:=e,tag:=t }=epF last.ep e:=by
 have hcl:(next last c).client=c:=by rw [next,if_pos ⟨hc,h1,h2⟩]
 refine follows_of (v:={ next last c with root:=r,ep:=e,tag:=t }) (by show isC (next last c).client=true; rw [hcl,hc]) ?_
 show _=({ next last (next last c).client with root:=r,ep:=e,tag:=t }:V)
 rw [hcl]
theorem fzero_va:follows zero va=true:=by
 have:=follows_next (last:=zero) (c:=2) rfl (by decide) (by decide) no32 (Tap.tape 1 0 32) 0
 rw [next_zero] at this
 exact this
theorem fva_vb:follows va vb=true:=by
 have:=follows_next (last:=va) (c:=2) rfl (by decide) (by decide) no32 no32 0
 rw [next_va] at this
 exact this
theorem fva_vc:follows va vc=true:=by
 have:=follows_next (last:=va) (c:=2) rfl (by decide) (by decide) no32 no32 1
 rw [next_va] at this
 exact this
theorem fva_vd:follows va vd=false:=by
 have h:vd ≠ { next va vd.client with root:=vd.root,ep:=vd.ep,tag:=vd.tag }:=by
  rw [show vd.client=2 from rfl,next_va]
  exact fun h=>absurd (congrArg V.count h) (by decide)
 unfold follows
 rw [decide_eq_false h]
 simp
theorem may_va:may va=true:=rfl
theorem may_zero:may zero=false:=rfl
theorem key1_ne {a b:UInt8} (h:a ≠ b):key1 a ≠ key1 b:=fun e=>h (by injection e)
theorem look_one (key key' b out:List UInt8):Bx.lookB key' b [⟨key,b,out⟩]=if key=key' then some out else none:=by simp [Bx.lookB]
end Go.Proofs.YtajgjeialbgijaaDoor
