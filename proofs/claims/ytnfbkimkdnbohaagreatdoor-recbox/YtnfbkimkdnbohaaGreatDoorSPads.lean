import Derived.Test.YtnfbkimkdnbohaaGreatDoorSPhase
set_option linter.unusedVariables false
set_option linter.unusedSimpArgs false
set_option maxRecDepth 100000
set_option maxHeartbeats 8000000
namespace Go.Proofs.YtnfbkimkdnbohaaGreatDoor.Rc
def size (n:Int):Nat:=if n < 0 then 0 else if n<=30 then 32 else if n<=126 then 128 else if n<=510 then 512 else if n<=2046 then 2048 else 0
def two (n:Nat):List UInt8:=[UInt8.ofNat (n / 256),UInt8.ofNat n]
def pad (b:List UInt8):List UInt8:=two b.length ++ b ++ List.replicate (size b.length - (2 + b.length)) 0
theorem size_room {n:Nat} (h:n<=2046):n + 2<=size n/\size n<=2048:=by unfold size; (repeat' split) <;> omega
theorem size_none {n:Nat} (h:2046 < n):size n=0:=by unfold size; (repeat' split) <;> omega
theorem size_zero {n:Nat}:size n=0 ↔ 2046 < n:=by unfold size; (repeat' split) <;> omega
theorem size_le (n:Int):size n<=2048:=by unfold size; (repeat' split) <;> omega
theorem pad_length {b:List UInt8} (h:b.length<=2046):(pad b).length=size b.length:=by
 have:=size_room h
 simp only [pad,two,List.length_append,List.length_cons,List.length_nil,List.length_replicate]
 omega
def told (b:List UInt8):Nat:=(b.getD 0 0).toNat * 256 + (b.getD 1 0).toNat
theorem told_lt (b:List UInt8):told b < 65536:=by
 have h1:=(b.getD 0 0).toNat_lt
 have h2:=(b.getD 1 0).toNat_lt
 unfold told; omega
def nought (b:List UInt8):Bool:=b.all fun c=>c == 0
def fits (b:List UInt8):Bool:=decide (2<=b.length) && decide (size (told b)=b.length) && nought (b.drop (2 + told b))
def unpad (b:List UInt8):List UInt8:=if fits b then (b.drop 2).take (told b) else []
theorem told_room {b:List UInt8} (h2:2<=b.length) (h:size (told b)=b.length):told b + 2<=b.length/\told b<=2046:=by
 by_cases hn:told b<=2046
 ·have:=size_room hn; omega
 ·have:=size_none (n:=told b) (by omega); omega
theorem told_pad {b:List UInt8} (h:b.length<=2046):told (pad b)=b.length:=by
 simp only [told,pad,two,List.cons_append,List.nil_append,List.getD_cons_zero,List.getD_cons_succ,UInt8.toNat_ofNat']
 omega
theorem fits_pad {b:List UInt8} (h:b.length<=2046):fits (pad b)=true:=by
 have hr:=size_room h
 simp only [fits,told_pad h,pad_length h,Bool.and_eq_true,decide_eq_true_iff]
 refine ⟨⟨by omega,trivial⟩,?_⟩
 have:(pad b).drop (2 + b.length)=List.replicate (size b.length - (2 + b.length)) 0:=by
  unfold pad
  rw [List.drop_append_of_le_length (by simp [two]; omega),List.drop_of_length_le (by simp [two]; omega),List.nil_append]
 rw [this,nought,List.all_replicate]
 simp
theorem unpad_pad {b:List UInt8} (h:b.length<=2046):unpad (pad b)=b:=by
 rw [unpad,if_pos (fits_pad h),told_pad h]
 simp [pad,two]
theorem unpad_length {b:List UInt8} (h:fits b=true):(unpad b).length=told b:=by
 have h':=h
 simp only [fits,Bool.and_eq_true,decide_eq_true_iff] at h'
 have:=told_room h'.1.1 h'.1.2
 rw [unpad,if_pos h]
 simp; omega
structure R where
 ver:Int
 gone:Bool
 val:List UInt8
def may (r:R):Bool:=decide (1<=r.ver) && decide (r.ver<=1099511627776) && decide (r.val.length<=1000) && (!r.gone || r.val.isEmpty)
def eight (v:Int):List UInt8:=(List.range 8).map fun i=>UInt8.ofNat (v.toNat / 256 ^ (7 - i) % 256)
def mark (g:Bool):UInt8:=if g then 1 else 0
def within (r:R):List UInt8:=eight r.ver ++ mark r.gone :: r.val
def put (r:R):List UInt8:=pad (within r)
theorem eight_length (v:Int):(eight v).length=8:=by simp [eight]
theorem within_length (r:R):(within r).length=9 + r.val.length:=by simp [within,eight_length]; omega
theorem may_val {r:R} (h:may r=true):r.val.length<=1000:=by simp [may] at h; exact h.1.2
theorem put_length {r:R} (h:may r=true):(put r).length=size (9 + r.val.length:Nat):=by
 have:=may_val h
 rw [put,pad_length (by rw [within_length]; omega),within_length]
def big:List UInt8->Nat->Nat
 | [],n=>n
 | c :: l,n=>big l (n * 256 + c.toNat)
def sgn (n:Nat):Int:=if n < 9223372036854775808 then n else (n:Int) - 18446744073709551616
def took (m:List UInt8):R:=⟨sgn (big (m.take 8) 0),decide (m.getD 8 0=1),m.drop 9⟩
def gets (b:List UInt8):Bool:=fits b && decide (9<=(unpad b).length) && decide ((unpad b).getD 8 0<=1) && may (took (unpad b))
theorem big_step {n k:Nat} (l:List UInt8):big (UInt8.ofNat (n / k % 256) :: l) (n / (k * 256))=big l (n / k):=by
 show big l (n / (k * 256) * 256 + (UInt8.ofNat (n / k % 256)).toNat)=_
 rw [<- Nat.div_div_eq_div_mul,UInt8.toNat_ofNat',Nat.mod_mod]
 congr 1
 omega
theorem big_eight {v:Int} (h0:0<=v) (h:v < 18446744073709551616):(big (eight v) 0:Int)=v:=by
 obtain ⟨n,rfl⟩:=Int.eq_ofNat_of_zero_le h0
 have e:big [UInt8.ofNat (n / 256 ^ 7 % 256),UInt8.ofNat (n / 256 ^ 6 % 256),UInt8.ofNat (n / 256 ^ 5 % 256),UInt8.ofNat (n / 256 ^ 4 % 256),UInt8.ofNat (n / 256 ^ 3 % 256),UInt8.ofNat (n / 256 ^ 2 % 256),UInt8.ofNat (n / 256 ^ 1 % 256),UInt8.ofNat (n / 256 ^ 0 % 256)] (n / (256 ^ 7 * 256))=n:=by
  rw [big_step,show n / 256 ^ 7=n / (256 ^ 6 * 256) from rfl,big_step,show n / 256 ^ 6=n / (256 ^ 5 * 256) from rfl,big_step,show n / 256 ^ 5=n / (256 ^ 4 * 256) from rfl,big_step,show n / 256 ^ 4=n / (256 ^ 3 * 256) from rfl,big_step,show n / 256 ^ 3=n / (256 ^ 2 * 256) from rfl,big_step,show n / 256 ^ 2=n / (256 ^ 1 * 256) from rfl,big_step,show n / 256 ^ 1=n / (256 ^ 0 * 256) from rfl,big_step]
  simp [big]
 rw [show n / (256 ^ 7 * 256)=0 from Nat.div_eq_of_lt (by omega)] at e
 exact congrArg Int.ofNat e
theorem took_within {r:R} (h:may r=true):took (within r)=r:=by
 have hv:1<=r.ver/\r.ver<=1099511627776:=by simp [may] at h; exact ⟨h.1.1.1,h.1.1.2⟩
 unfold took within
 have e1:(eight r.ver ++ mark r.gone :: r.val).take 8=eight r.ver:=by rw [List.take_left' (eight_length _)]
 have e2:(eight r.ver ++ mark r.gone :: r.val).getD 8 0=mark r.gone:=by simp [List.getD_eq_getElem?_getD,eight_length]
 have e3:(eight r.ver ++ mark r.gone :: r.val).drop 9=r.val:=by rw [List.drop_append,List.drop_of_length_le (by rw [eight_length]; omega),eight_length]; rfl
 rw [e1,e2,e3]
 have hb:=big_eight (v:=r.ver) (by omega) (by omega)
 have e4:sgn (big (eight r.ver) 0)=r.ver:=by unfold sgn; split <;> omega
 have e5:decide (mark r.gone=1)=r.gone:=by cases r.gone <;> rfl
 rw [e4,e5]
theorem within_mark {r:R}:(within r).getD 8 0=mark r.gone:=by simp [within,List.getD_eq_getElem?_getD,eight_length]
theorem gets_put {r:R} (h:may r=true):gets (put r)=true/\took (unpad (put r))=r:=by
 have hl:=may_val h
 have hw:(within r).length<=2046:=by rw [within_length]; omega
 unfold gets put
 rw [fits_pad hw,unpad_pad hw,took_within h,h,within_length,within_mark]
 refine ⟨?_,rfl⟩
 have:mark r.gone<=1:=by cases r.gone <;> decide
 simp [this]
end Go.Proofs.YtnfbkimkdnbohaaGreatDoor.Rc
namespace Go.Proofs.YtnfbkimkdnbohaaGreatDoor
open Go.RowKit
def RetE (w:World) (l:List UInt8) (er:Int) (e:Ending) (w':World):Prop :=
 ∃ A n c,e = .returned (.tuple #[.slice A n c,.int .i64 er])/\Rd w' A n c l/\Below w.heap.size w w'/\∀ x,A=some x->0 < n->w.heap.size<=x.block
theorem psize_any (n:Int) {w:World} (hg:Gl w) (h1:-9223372036854775808<=n) (h2:n<=9223372036854775807):Calls Tryz.prog 46 #[.int .i64 n] w fun e w'=>e = .returned (.int .i64 (Rc.size n:Int))/\w'=w:=by
 have HG:=qh hg
 have IS:Hid ((Tryz.prog.info? 103).map (·.size)=some padSizes.length):=by unfold Hid; kernel_rfl
 clear hg
 by_cases h0:n < 0
 ·have e:Rc.size n=0:=by unfold Rc.size; rw [if_pos h0]
  rw [e]
  go_enter Tryz.func46,Tryz.ntmps46
  go_wp2_with fail
  go_ret
  exact ⟨rfl,rfl⟩
 ·have hS:Rc.size n=if n<=30 then 32 else if n<=126 then 128 else if n<=510 then 512 else if n<=2046 then 2048 else 0:=by unfold Rc.size; rw [if_neg h0]
  have HS:=qh hS
  clear hS
  go_enter Tryz.func46,Tryz.ntmps46
  go_wp2_with (with_reducible refine load_law rfl 103 (.global 0) rfl 0 0 rfl padSizes _ Tryz.underlying103 rfl IS.out HG.out.sizes ?_)
  go_loopw [8] (fun i wr=>∃ k:Nat,k<=4/\i = .int .i64 k/\Hid ((0 < k->30 < n)/\(1 < k->126 < n)/\(2 < k->510 < n)/\(3 < k->2046 < n))/\Hid (wr=w)) (fun i _=>4 - (intOf i).toNat)
  case atStart=>exact ⟨0,by omega,rfl,⟨by omega,by omega,by omega,by omega⟩,rfl⟩
  case round =>
   obtain ⟨k,hk,rfl,HK,HW⟩:=hrel
   have hw:=HW.out
   subst hw
   clear HW
   by_cases hlt:k < 4
   ·have hlb:(k:Int) < 4:=by omega
    obtain ⟨s,hs,hse,hs1,hs2⟩:∃ s:Int,padSizes[k]?=some (.int .i64 s)/\Hid ((n<=s - 2->s=(Rc.size n:Int))/\(¬ n<=s - 2->(0 < k + 1->30 < n)/\(1 < k + 1->126 < n)/\(2 < k + 1->510 < n)/\(3 < k + 1->2046 < n)))/\32<=s/\s<=2048:=by
     have hk4:k=0 ∨ k=1 ∨ k=2 ∨ k=3:=by omega
     have HK:=HK.out
     have HS:=HS.out
     rcases hk4 with rfl | rfl | rfl | rfl
     ·exact ⟨32,rfl,⟨fun h=>by rw [HS,if_pos (by omega)]; rfl,fun h=>by omega⟩,by omega,by omega⟩
     ·exact ⟨128,rfl,⟨fun h=>by rw [HS,if_neg (by omega),if_pos (by omega)]; rfl,fun h=>by omega⟩,by omega,by omega⟩
     ·exact ⟨512,rfl,⟨fun h=>by rw [HS,if_neg (by omega),if_neg (by omega),if_pos (by omega)]; rfl,fun h=>by omega⟩,by omega,by omega⟩
     ·exact ⟨2048,rfl,⟨fun h=>by rw [HS,if_neg (by omega),if_neg (by omega),if_neg (by omega),if_pos (by omega)]; rfl,fun h=>by omega⟩,by omega,by omega⟩
    have hix:=run_index_one (P:=Tryz.prog) wr 103 3 4 _ Tryz.underlying103 Tryz.underlying3 rfl (by kernel_rfl) padSizes k hlt (.int .i64 s) hs
    clear HK hs
    by_cases hn:n<=s - 2
    ·go_wp2_with fail
     go_ret
     exact ⟨congrArg (fun z=>Ending.returned (.int .i64 z)) (hse.out.1 hn),rfl⟩
    ·go_wp2_with fail
     go_roundw
     case rel=>exact ⟨k + 1,by omega,by go_num,hse.out.2 hn,(show Hid True from trivial)⟩
     case measure=>simp [intOf]; omega
   ·obtain rfl:k=4:=by omega
    have e:Rc.size n=0:=by have HK:=HK.out; rw [HS.out,if_neg (by omega),if_neg (by omega),if_neg (by omega),if_neg (by omega)]
    go_wp2_with fail
    go_ret
    exact ⟨by rw [e]; rfl,rfl⟩
theorem pad_rows (b:List UInt8) (m n:Nat) (x y:UInt8) (hl:b.length=n) (h:n<=m):(cellOf x :: cellOf y :: List.replicate m (Value.int .u8 0)).take 2 ++ (b.take (min n m)).map cellOf ++ (cellOf x :: cellOf y :: List.replicate m (Value.int .u8 0)).drop (2 + min n m)=([x,y] ++ b ++ List.replicate (m - n) 0).map cellOf:=by
 subst hl
 rw [Nat.min_eq_left h,List.take_of_length_le (Nat.le_refl _),show (cellOf x :: cellOf y :: List.replicate m (Value.int .u8 0)).drop (2 + b.length)=(List.replicate m (Value.int .u8 0)).drop b.length by rw [Nat.add_comm]; rfl,List.drop_replicate,List.map_append,List.map_append,List.map_replicate]
 rfl
theorem ppad_any {w:World} {A:Option Addr} {n c:Nat} {b:List UInt8} (hg:Gl w) (hr:Rd w A n c b) :
  Calls Tryz.prog 23 #[.slice A n c] w (RetE w (if b.length<=2046 then Rc.pad b else []) (if b.length<=2046 then 0 else 13)):=by
 have HG:=qh hg
 have HR:=qh hr
 have hl:=hr.len
 have hm:n<=9223372036854775807:=by have h1:=hr.cap; have h2:=hr.max; unfold maxLen at h2; omega
 have CS:=qh (psize_any (n:Int) hg (by omega) (by omega))
 clear hg hr
 by_cases h:n<=2046
 ·rw [if_pos (by omega),if_pos (by omega)]
  obtain ⟨z,hz⟩:=zx (Rc.size (n:Int))
  have hz2:n<=z - 2/\z<=2048:=by have:=Rc.size_room h; omega
  have hz3:32<=z:=by rw [hz]; unfold Rc.size; (repeat' split) <;> omega
  obtain ⟨x,hx⟩:=zx (UInt8.ofNat (n / 256))
  obtain ⟨y,hy⟩:=zx (UInt8.ofNat n)
  have ex:(n:Int) / 256=(x.toNat:Int):=by rw [hx,UInt8.toNat_ofNat']; omega
  have ey:(n:Int) % 256=(y.toNat:Int):=by rw [hy,UInt8.toNat_ofNat']; omega
  have HP:Hid (Rc.pad b=[x,y] ++ b ++ List.replicate (z - 2 - n) 0):=by unfold Hid Rc.pad Rc.two; rw [hl,<- hz,hx,hy,show z - (2 + n)=z - 2 - n by omega]
  have HPL:Hid ((Rc.pad b).length=z):=by unfold Hid; rw [Rc.pad_length (by omega),hl,hz]
  rw [<- hz] at CS
  obtain ⟨R,hR⟩:=zx (List.replicate (z - 2) (Value.int .u8 0))
  have hmk:∀ W:World,(Instr.makeSlice 24 (.int .i64 (z:Int)) (.int .i64 (z:Int))).run Tryz.prog W = .ok (.slice (some ⟨W.heap.size,0,none⟩) z z) (W.alloc (.cells (Value.int .u8 0 :: Value.int .u8 0 :: R).toArray 5)):=fun W=>by
   have:=make_bytes z (by omega) W
   rw [show outC [] z=Value.int .u8 0 :: Value.int .u8 0 :: R by rw [hR]; obtain ⟨m,rfl⟩:∃ m,z=m + 2:=⟨z - 2,by omega⟩; rfl] at this
   exact this
  have HL:=qh hl
  have HRR:=qh hR
  clear hz hl hx hy hR
  go_enter Tryz.func23,Tryz.ntmps23
  go_wp2_with fail
  refine CS.out.mono ?_
  rintro e w0 ⟨rfl,rfl⟩
  go_upto_region 7 with (fail)
  obtain ⟨w1,hw1⟩:=zx (w0.alloc (.cells (Value.int .u8 (x.toNat:Int) :: Value.int .u8 (y.toNat:Int) :: R).toArray 5))
  have B1:Blk w1 w0.heap.size 5 (cellOf x :: cellOf y :: R):=by rw [hw1]; exact Blk.new _ _ _
  have W1:Below w0.heap.size w0 w1:=by rw [hw1]; exact alloc_below _ _
  obtain ⟨w2,hcopy,hB2,hO2⟩:=copy_into (off:=2) (dLen:=z - 2) (dCap:=z - 2) B1 (HR.out.below W1) (by rw [HRR.out]; simp; omega)
  rw [HRR.out,pad_rows b (z - 2) n x y HL.out hz2.1,<- HP.out] at hB2
  have B2:=qh hB2
  have W2:=qh (below_of_only W1 hO2 (Nat.le_refl _) W1.size)
  have hsz:w0.heap.size < w2.heap.size:=hB2.lt
  rw [hw1] at hcopy
  clear hB2 hO2 B1 W1 hw1
  go_wp2_with fail
  go_ret2
  exact ⟨_,_,_,rfl,Rd.of_block B2.out HPL.out (Nat.le_refl _) (by unfold maxLen; omega) (fun j hj=>by rw [Nat.zero_add]; simp [List.getD_eq_getElem?_getD,List.getElem?_eq_getElem (show j < (Rc.pad b).length by rw [HPL.out]; exact hj)]),W2.out,fun x hx _=>by injection hx with hx; subst hx; exact Nat.le_refl _⟩
 ·rw [if_neg (by omega),if_neg (by omega)]
  have e:Rc.size (n:Int)=0:=Rc.size_none (by omega)
  rw [e] at CS
  go_enter Tryz.func23,Tryz.ntmps23
  go_wp2_with fail
  refine CS.out.mono ?_
  rintro e w0 ⟨rfl,rfl⟩
  go_wp2_with fail
  go_ret2
  exact ⟨none,0,0,rfl,Rd.nil _ _ _ (by unfold maxLen; omega),Below.refl _ _,fun x hx=>by cases hx⟩
open Go.RowKit
theorem take_all (b:List UInt8) (k:Nat) (h:k < b.length):Rc.nought (b.take (k + 1))=(Rc.nought (b.take k) && (b.getD k 0 == 0)):=by
 have e0:b.getD k 0=b[k]:=by simp [List.getD_eq_getElem?_getD,List.getElem?_eq_getElem h]
 rw [show b.take (k + 1)=b.take k ++ [b[k]] from List.take_succ_eq_append_getElem h,e0]
 unfold Rc.nought
 rw [List.all_append,List.all_cons,List.all_nil,Bool.and_true]
theorem nought_not (b:List UInt8) (k:Nat) (h:k < b.length) (hy:b.getD k 0 ≠ 0):Rc.nought b=false:=by
 have e0:b.getD k 0=b[k]:=by simp [List.getD_eq_getElem?_getD,List.getElem?_eq_getElem h]
 rw [e0] at hy
 refine Bool.eq_false_iff.2 fun ha=>hy ?_
 simpa using List.all_eq_true.1 ha _ (List.getElem_mem h)
theorem pnought_any {w:World} {A:Option Addr} {n c:Nat} {b:List UInt8} (hr:Rd w A n c b) :
  Calls Tryz.prog 47 #[.slice A n c] w fun e w'=>e = .returned (.bool (Rc.nought b))/\w'=w:=by
 have HR:=qh hr
 have hl:=hr.len
 have hm:n<=9223372036854775807:=by have h1:=hr.cap; have h2:=hr.max; unfold maxLen at h2; omega
 clear hr
 go_enter Tryz.func47,Tryz.ntmps47
 go_wp2_with fail
 go_loopw [7] (fun i wr=>∃ k:Nat,k<=n/\i = .int .i64 k/\Hid (Rc.nought (b.take k)=true)/\Hid (wr=w)) (fun i _=>n - (intOf i).toNat)
 case atStart=>exact ⟨0,by omega,rfl,by unfold Hid; simp [Rc.nought],rfl⟩
 case round =>
  obtain ⟨k,hk,rfl,HK,HW⟩:=hrel
  have hw:=HW.out
  subst hw
  clear HW
  by_cases hlt:k < n
  ·have hlb:(k:Int) < (n:Int):=by omega
   obtain ⟨g,off,rfl,hblt,hcell⟩:=HR.out.at_ (by omega)
   have c0:wr.cell? ⟨g,off + k,none⟩=some (.int .u8 ((b.getD k 0).toNat:Int)):=hcell k hlt
   clear hcell
   by_cases hy:b.getD k 0=0
   ·have HN:Hid (Rc.nought (b.take (k + 1))=true):=by unfold Hid; rw [take_all b k (by omega),HK.out,hy]; rfl
    rw [hy] at c0
    clear HK hy
    go_wp2_with fail
    go_roundw
    case rel=>exact ⟨k + 1,by omega,by go_num,HN,(show Hid True from trivial)⟩
    case measure=>simp [intOf]; omega
   ·have HN:Hid (Rc.nought b=false):=nought_not b k (by omega) hy
    have hy2:¬ (((b.getD k 0).toNat:Int)=0):=fun h=>hy (UInt8.toNat_inj.1 (show (b.getD k 0).toNat=(0:UInt8).toNat by have h1:(0:UInt8).toNat=0:=rfl; omega))
    clear HK hy
    generalize b.getD k 0=y at *
    go_wp2_with fail
    go_ret
    exact ⟨by rw [HN.out]; rfl,rfl⟩
  ·obtain rfl:k=n:=by omega
   have HN:Hid (Rc.nought b=true):=by have:=HK.out; rw [List.take_of_length_le (by omega)] at this; exact this
   clear HK
   go_wp2_with fail
   go_ret
   exact ⟨by rw [HN.out]; rfl,rfl⟩
theorem or256 (x y:UInt8):bits .or .i64 ((x.toNat:Int) * 256) (y.toNat:Int)=((x.toNat * 256 + y.toNat:Nat):Int):=by
 have h1:=x.toNat_lt
 have h2:=y.toNat_lt
 rw [bits_join .i64 63 (by decide) (fun n h0 h1=>by rw [IntKind.wrap_i64]; omega) 8 _ _ (by omega) (by omega) (by omega) (by omega) (by omega) (by omega)]
 omega
theorem punpad_any {w:World} {A:Option Addr} {n c:Nat} {b:List UInt8} (hg:Gl w) (hr:Rd w A n c b) :
  Calls Tryz.prog 24 #[.slice A n c] w (RetE w (Rc.unpad b) (if Rc.fits b then 0 else 1)):=by
 have HG:=qh hg
 have HR:=qh hr
 have hl:=hr.len
 have hm:n<=9223372036854775807:=by have h1:=hr.cap; have h2:=hr.max; unfold maxLen at h2; omega
 have hc:=hr.cap
 clear hg hr
 obtain ⟨ul,hul⟩:=zx (Rc.unpad b)
 obtain ⟨er,her⟩:=zx (if Rc.fits b then 0 else 1:Int)
 rw [<- hul,<- her]
 have HUL:=qh hul
 have HER:=qh her
 clear hul her
 by_cases h2:2<=n
 ·obtain ⟨g,off,rfl,hblt,hcell⟩:=HR.out.at_ (by omega)
  obtain ⟨x,hx⟩:=zx (b.getD 0 0)
  obtain ⟨y,hy⟩:=zx (b.getD 1 0)
  have c0:w.cell? ⟨g,off,none⟩=some (.int .u8 (x.toNat:Int)):=by rw [hx]; exact hcell 0 (by omega)
  have c1:w.cell? ⟨g,off + 1,none⟩=some (.int .u8 (y.toNat:Int)):=by rw [hy]; exact hcell 1 (by omega)
  have hor:=or256 x y
  obtain ⟨t,ht⟩:=zx (Rc.told b)
  rw [show x.toNat * 256 + y.toNat=t by rw [ht,Rc.told,hx,hy]] at hor
  have hx8:=x.toNat_lt
  have hy8:=y.toNat_lt
  clear hx hy hcell
  go_enter Tryz.func24,Tryz.ntmps24
  go_upto_region 3 with (fail)
  go_quiet (fail)
  obtain ⟨w1,hw1⟩:=zx (w.drewN nq)
  have W1:Below w.heap.size w w1:=by rw [hw1]; exact ⟨rfl,rfl,rfl,Nat.le_refl _,fun _ _=>rfl⟩
  have HG1:=qh (HG.out.below W1 HG.out.size)
  have HR1:=qh (HR.out.below W1)
  have W1:=qh W1
  rw [<- hw1]
  clear hw1 HG c0 c1 hor
  have ht16:t < 65536:=by rw [ht]; exact Rc.told_lt b
  have HT:=qh ht
  rw [<- ht]
  clear ht
  have CS:=qh (psize_any (t:Int) HG1.out (by omega) (by omega))
  obtain ⟨z,hz⟩:=zx (Rc.size (t:Int))
  rw [<- hz] at CS
  by_cases hzn:z=n
  ·have hroom:=Rc.told_room (b:=b) (by omega) (by rw [<- HT.out,<- hz,hzn,hl])
   rw [<- HT.out] at hroom
   have hsl:∀ W:World,(Instr.slice 24 (.slice (some ⟨g,off,none⟩) n c) (some (.int .i64 (2 + (t:Int)))) none none).run Tryz.prog W = .ok (.slice (cutA (some ⟨g,off,none⟩) c (2 + t)) (n - (2 + t)) (c - (2 + t))) W:=fun W=>by
    have:=slice_l (some ⟨g,off,none⟩) n c (2 + t) (by omega) W
    rwa [show ((2 + t:Nat):Int)=2 + (t:Int) by omega] at this
   obtain ⟨B2,hB2⟩:=zx (cutA (some ⟨g,off,none⟩) c (2 + t))
   have HC:=qh (HR1.out.cut (k:=2 + t) (e:=n) (by omega) (Nat.le_refl _))
   simp only [<- hB2] at hsl HC
   rw [List.take_of_length_le (by simp; omega)] at HC
   have CN:=qh (pnought_any HC.out)
   have hfe:Rc.fits b=Rc.nought (b.drop (2 + t)):=by
    unfold Rc.fits
    rw [<- HT.out,<- hz,decide_eq_true (show 2<=b.length by omega),decide_eq_true (show z=b.length by omega)]
    rfl
   have HZ:=qh hz
   have ht2:t<=2046:=hroom.2
   have HRM:=qh hroom
   have HL:=qh hl
   subst hzn
   clear hz hB2 hroom hl HC
   by_cases hno:Rc.nought (b.drop (2 + t))=true
   ·rw [hno] at CN hfe
    have HU:Hid (ul=(b.drop 2).take t):=by unfold Hid; rw [HUL.out,Rc.unpad,hfe,if_pos rfl,HT.out]
    have HLL:Hid (ul.length=t):=by unfold Hid; rw [HUL.out,Rc.unpad_length hfe,HT.out]
    obtain rfl:er=0:=by rw [HER.out,hfe]; rfl
    have hmk:=fun W=>make_bytes t (by omega) W
    obtain ⟨O,hO⟩:=zx (outC [] t)
    rw [<- hO] at hmk
    have HO:=qh hO
    clear hfe hno hO HT HZ HUL HER
    go_wp2_with fail
    refine CS.out.mono ?_
    rintro e w2 ⟨rfl,rfl⟩
    go_wp2_with fail
    refine CN.out.mono ?_
    rintro e w3 ⟨rfl,rfl⟩
    go_upto_region 7 with (fail)
    obtain ⟨w4,hw4⟩:=zx (w3.alloc (.cells O.toArray 5))
    rw [<- hw4]
    have B4:Blk w4 w3.heap.size 5 (outC [] t):=by rw [hw4,HO.out]; exact Blk.new _ _ _
    have W4:Below w3.heap.size w3 w4:=by rw [hw4]; exact alloc_below _ _
    have hsl2:∀ W:World,(Instr.slice 24 (.slice (some ⟨g,off,none⟩) z c) (some (.int .i64 2)) none none).run Tryz.prog W = .ok (.slice (cutA (some ⟨g,off,none⟩) c 2) (z - 2) (c - 2)) W:=slice_l (some ⟨g,off,none⟩) z c 2 (by omega)
    have HC:=(HR1.out.cut (k:=2) (e:=z) (by omega) (Nat.le_refl _)).below W4
    rw [List.take_of_length_le (by have:=HL.out; simp; omega)] at HC
    obtain ⟨B5,hB5⟩:=zx (cutA (some ⟨g,off,none⟩) c 2)
    simp only [<- hB5] at hsl2 HC
    have hmn:min (z - 2) t=t:=by have:=HRM.out; have:=HL.out; omega
    obtain ⟨w5,hcopy,hB,hO5⟩:=copy_into (off:=0) (dLen:=t) (dCap:=t) B4 HC (by simp [outC])
    rw [hmn,<- HU.out,List.take_zero,List.nil_append,List.drop_of_length_le (by simp [outC]),List.append_nil] at hB
    have W5:=qh (below_of_only W4 hO5 (Nat.le_refl _) W4.size)
    have HB:=qh hB
    clear hw4 hB5 hB hO5 B4 W4 HC hsl hmk
    go_wp2_with fail
    go_ret2
    exact ⟨_,_,_,rfl,Rd.of_block HB.out HLL.out (Nat.le_refl _) (by unfold maxLen; omega) (fun j hj=>by rw [Nat.zero_add]; simp [List.getD_eq_getElem?_getD,List.getElem?_eq_getElem (show j < ul.length by rw [HLL.out]; exact hj)]),zt W1.out W5.out,fun x hx _=>by injection hx with hx; subst hx; exact W1.out.size⟩
   ·have hno:Rc.nought (b.drop (2 + t))=false:=by simpa using hno
    rw [hno] at CN hfe
    obtain rfl:ul=[]:=by rw [HUL.out,Rc.unpad,hfe]; rfl
    obtain rfl:er=1:=by rw [HER.out,hfe]; rfl
    clear hfe hno HT HZ HUL HER
    go_wp2_with fail
    refine CS.out.mono ?_
    rintro e w2 ⟨rfl,rfl⟩
    go_wp2_with fail
    refine CN.out.mono ?_
    rintro e w3 ⟨rfl,rfl⟩
    go_wp2_with fail
    go_ret2
    exact ⟨none,0,0,rfl,Rd.nil _ _ _ (by unfold maxLen; omega),W1.out,fun x hx=>by cases hx⟩
  ·have hf:Rc.fits b=false:=by simp [Rc.fits]; intro _ h; exact absurd (by rw [<- hl,<- h,hz,HT.out]) hzn
   obtain rfl:ul=[]:=by rw [HUL.out,Rc.unpad,hf]; rfl
   obtain rfl:er=1:=by rw [HER.out,hf]; rfl
   have hzn2:¬ ((z:Int)=(n:Int)):=by omega
   clear hf hz HT hl HUL HER
   go_wp2_with fail
   refine CS.out.mono ?_
   rintro e w2 ⟨rfl,rfl⟩
   go_wp2_with fail
   go_ret2
   exact ⟨none,0,0,rfl,Rd.nil _ _ _ (by unfold maxLen; omega),W1.out,fun x hx=>by cases hx⟩
 ·have hf:Rc.fits b=false:=by simp [Rc.fits]; intro h; omega
  obtain rfl:ul=[]:=by rw [HUL.out,Rc.unpad,hf]; rfl
  obtain rfl:er=1:=by rw [HER.out,hf]; rfl
  have hlt:(n:Int) < 2:=by omega
  go_enter Tryz.func24,Tryz.ntmps24
  go_wp2_with fail
  go_ret2
  exact ⟨none,0,0,rfl,Rd.nil _ _ _ (by unfold maxLen; omega),Below.refl _ _,fun x hx=>by cases hx⟩
end Go.Proofs.YtnfbkimkdnbohaaGreatDoor
