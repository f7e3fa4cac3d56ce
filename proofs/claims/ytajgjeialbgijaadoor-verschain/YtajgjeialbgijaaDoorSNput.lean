import Derived.Lib.AppendStr
import Derived.Test.YtajgjeialbgijaaDoorSGrow
namespace Go.Proofs.YtajgjeialbgijaaDoor
set_option linter.unusedVariables false
set_option linter.unusedSimpArgs false
set_option maxRecDepth 100000
open Go.RowKit
namespace Num
def enc (u:Nat):List UInt8 :=
 if u < 128 then [UInt8.ofNat u] else UInt8.ofNat (u % 128 + 128) :: enc (u / 128)
termination_by u
decreasing_by omega
theorem enc_lo {u:Nat} (h:u < 128):enc u=[UInt8.ofNat u]:=by rw [enc,if_pos h]
theorem enc_hi {u:Nat} (h:128<=u):enc u=UInt8.ofNat (u % 128 + 128) :: enc (u / 128):=by rw [enc,if_neg (by omega)]
def zig (n:Int):Nat:=if n < 0 then (-2 * n - 1).toNat else (2 * n).toNat
theorem zig_lt (n:Int) (h1:-9223372036854775808<=n) (h2:n<=9223372036854775807):zig n < 18446744073709551616:=by
 unfold zig
 split <;> omega
theorem enc_pos (u:Nat):0 < (enc u).length:=by
 rcases Nat.lt_or_ge u 128 with h | h
 ·simp [enc_lo h]
 ·simp [enc_hi h]
theorem enc_len:∀ (k u:Nat),0 < k->u < 128 ^ k->(enc u).length<=k:=by
 intro k
 induction k with
 | zero=>intro u h; omega
 | succ k ih =>
  intro u _ hu
  rcases Nat.lt_or_ge u 128 with h | h
  ·simp [enc_lo h]
  ·rw [enc_hi h]
   have hk:0 < k:=by
    rcases Nat.eq_zero_or_pos k with h0 | h0
    ·subst h0; simp at hu; omega
    ·exact h0
   have:=ih (u / 128) hk (by rw [Nat.pow_succ] at hu; omega)
   simpa using this
theorem enc_len10 {u:Nat} (h:u < 18446744073709551616):(enc u).length<=10:=enc_len 10 u (by omega) (by omega)
structure Got where
 num:Int
 cnt:Nat
 err:Int
theorem pow_le8 {k:Nat} (h:k<=8):(128:Nat) ^ k<=72057594037927936:=by
 have:=Nat.pow_le_pow_right (n:=128) (by omega) h
 omega
theorem fits {k a d:Nat} (hk:k<=9) (ha:a < 128 ^ k) (hd:d < 128) (h9:k=9->d<=1):a + d * 128 ^ k < 18446744073709551616/\d * 128 ^ k < 18446744073709551616:=by
 by_cases h:k=9
 ·subst h
  have:=h9 rfl
  omega
 ·have h8:=pow_le8 (k:=k) (by omega)
  have:=Nat.mul_le_mul (show d<=127 by omega) h8
  omega
end Num
set_option maxHeartbeats 400000 in
theorem fold_any (n:Int) (w:World) (h1:-9223372036854775808<=n) (h2:n<=9223372036854775807) :
  Calls Tryd.prog 87 #[.int .i64 n] w fun e w'=>e = .returned (.int .u64 (Num.zig n))/\w=w':=by
 by_cases hn:n < 0
 ·go_enter Tryd.func87,Tryd.ntmps87
  go_wp2
  go_ret
  exact ⟨ret_int (by unfold Num.zig; rw [if_pos hn]; omega),rfl⟩
 ·go_enter Tryd.func87,Tryd.ntmps87
  go_wp2
  go_ret
  exact ⟨ret_int (by unfold Num.zig; rw [if_neg (by omega)]; omega),rfl⟩
theorem make_room (n r:Nat) (h:n + r<=140737488355328) (W:World) :
  (Instr.makeSlice 41 (.int .i64 (n:Int)) (.int .i64 ((n:Int) + (r:Int)))).run Tryd.prog W = .ok (.slice (some ⟨W.heap.size,0,none⟩) n (n + r)) (W.alloc (.cells (madeCells #[.int .u8 0] (n + r)) 5)):=by
 obtain ⟨i0,hi,hz0,hz1,hz2⟩:=info_parts info5
 have hr:=run_make (P:=Tryd.prog) W 41 5 i0 (.int .u8 0) Tryd.underlying41 hi hz0 .i64 .i64 (n:Int) ((n:Int) + (r:Int)) (by omega) (by omega) (by rw [hz2]; omega) (by omega)
 rw [hz1] at hr
 have e1:((n:Int) + (r:Int)).toNat=n + r:=by omega
 rw [e1,Int.toNat_natCast,Nat.mul_one] at hr
 exact hr
theorem copy_bytes {A:Option Addr} {n c:Nat} {l:List UInt8} {w:World} (r:Nat) (cur:List Value) (hcur:cur.length=n + r) (hr:n + r<=140737488355328) (h:Rd w A n c l) :
  ∃ W',(Builtin.copy_ #[41,41] 3 #[.slice (some ⟨w.heap.size,0,none⟩) n (n + r),.slice A n c]).run Tryd.prog (w.alloc (.cells cur.toArray 5)) = .ok (goInt n) W' /\
   Ow W' w.heap.size (.slice (some ⟨w.heap.size,0,none⟩) n (n + r)) l/\Below w.heap.size w W':=by
 have hb:Below w.heap.size w (w.alloc (.cells cur.toArray 5)):=(Below.refl _ _).alloc (Nat.le_refl _) _
 have hmax:n + r<=maxLen:=by unfold maxLen; omega
 have hg:(w.alloc (.cells cur.toArray 5)).heap[w.heap.size]?=some (.cells cur.toArray 5 (0,0)):=heap_alloc_new w _
 rcases Nat.eq_zero_or_pos n with h0 | h0
 ·subst h0
  obtain rfl:l=[]:=List.eq_nil_of_length_eq_zero h.len
  refine ⟨_,run_copy_none (P:=Tryd.prog) _ 41 41 3 5 _ _ _ _ _ _ Tryd.underlying41 size5 (by simp),?_,hb⟩
  exact ⟨by simp,.inr ⟨_,_,_,rfl,Nat.le_refl _,hg,by simp,hmax,by simpa using hcur,by simp⟩⟩
 ·obtain ⟨b,off,rfl,hlt,hc⟩:=h.at_ h0
  have hl:(l.map cellOf).length=n:=by simpa using h.len
  have hrun:=run_copy_row (P:=Tryd.prog) (w.alloc (.cells cur.toArray 5)) 41 41 3 5 w.heap.size 0 n (n + r) ⟨b,off,none⟩ n c cur.toArray 5 (l.map cellOf) Tryd.underlying41 size5 hg (by simp [h.len])
   (fun j v hj=>by
    have hjl:j < n:=by have:=(List.getElem?_eq_some_iff.1 hj).1; omega
    have e:(⟨b,off,none⟩:Addr).add j=⟨b,off + j,none⟩:=by unfold Addr.add; split <;> simp_all
    rw [e,hb.cell (p:=⟨b,off + j,none⟩) hlt,hc j hjl,<- hj]
    have hj':j < l.length:=by rw [h.len]; exact hjl
    simp [List.getD_eq_getElem?_getD,List.getElem?_eq_getElem hj'])
   (by rw [hl]; simp; omega) (cells_u8 l)
  rw [hl] at hrun
  refine ⟨_,hrun,?_,below_setRow hb (Nat.le_refl _) _⟩
  refine ⟨by simp,.inr ⟨_,_,_,by rw [h.len],Nat.le_refl _,setRow_heap _ _ _ _ 5 _ hg,by rw [h.len]; omega,hmax,?_,?_⟩⟩
  ·simp [h.len]; omega
  ·simp [h.len]
set_option maxRecDepth 100000 in
set_option maxHeartbeats 400000 in
theorem room_any {A:Option Addr} {n c:Nat} {l:List UInt8} {w:World} (r:Nat) (h:Rd w A n c l) (hr:n + r<=140737488355328) :
  Calls Tryd.prog 70 #[.slice A n c,.int .i64 r] w fun e w'=>e = .returned (.slice (some ⟨w.heap.size,0,none⟩) n (n + r))/\Ow w' w.heap.size (.slice (some ⟨w.heap.size,0,none⟩) n (n + r)) l/\Below w.heap.size w w':=by
 have hmk:=make_room n r hr
 obtain ⟨cur,hcur⟩:∃ cur:List Value,cur=(madeCells #[.int .u8 0] (n + r)).toList:=⟨_,rfl⟩
 have hlen:cur.length=n + r:=by rw [hcur,Array.length_toList,size_madeCells]
 have harr:madeCells #[.int .u8 0] (n + r)=cur.toArray:=by rw [hcur]
 rw [harr] at hmk
 obtain ⟨W',hcopy,hown,hbel⟩:=copy_bytes r cur hlen hr h
 have HO:=Lib.hid hown
 have HB:=Lib.hid hbel
 clear hcur harr hlen h hown hbel
 go_enter Tryd.func70,Tryd.ntmps70
 go_wp2
 go_ret
 exact ⟨rfl,HO.out,HB.out⟩
theorem byte_hi (q:Nat):(q:Int) % 128 + 128=((UInt8.ofNat (q % 128 + 128)).toNat:Int):=by simp; omega
theorem byte_lo {q:Nat} (h:q < 128):(q:Int)=((UInt8.ofNat q).toNat:Int):=by simp; omega
set_option maxRecDepth 100000 in
set_option maxHeartbeats 1000000 in
theorem app_any {w:World} {B:Nat} {v:Value} {l:List UInt8} (n:Int) (h1:-9223372036854775808<=n) (h2:n<=9223372036854775807) (h:Ow w B v l) (hl:l.length<=140737488350000) (hB:B<=w.heap.size) :
  Calls Tryd.prog 69 #[v,.int .i64 n] w fun e w'=>∃ v',e = .returned v'/\Ow w' B v' (l ++ Num.enc (Num.zig n))/\Below B w w':=by
 have hz:=Num.zig_lt n h1 h2
 go_enter Tryd.func69,Tryd.ntmps69
 go_wp2_with (go_at_call 87; refine (fold_any _ _ h1 h2).mono ?_; rintro e w' ⟨rfl,rfl⟩)
 go_loopw [0,5] (fun s u wr=>∃ (q:Nat) (l':List UInt8),q < 18446744073709551616/\Hid (l' ++ Num.enc q=l ++ Num.enc (Num.zig n))/\Hid (Ow wr B s l')/\Hid (Below B w wr)/\u = .int .u64 q) (fun _ u _=>(intOf u).toNat)
 case atStart=>exact ⟨_,l,hz,rfl,h,Below.refl _ _,rfl⟩
 case round =>
  obtain ⟨q,l',hq,HE,HO,HB,rfl⟩:=hrel
  have hlen:l'.length<=140737488350010:=by
   have e:=congrArg List.length HE.out
   have:=Num.enc_len10 hz
   simp only [List.length_append] at e
   omega
  have hBs:B<=wr.heap.size:=Nat.le_trans hB HB.out.size
  clear hz h
  by_cases hc:128<=q
  ·go_wp2_with (first | (at_builtin; refine push_law rfl _ _ rfl rfl rfl _ HO.out (byte_hi q) (by omega) hBs HB.out ?_; intro v1 w1 HO1 HB1))
   go_roundw
   case rel=>exact ⟨q / 128,_,by omega,by unfold Hid; rw [List.append_assoc,<- HE.out,Num.enc_hi hc]; rfl,HO1,HB1,by go_num⟩
   case measure=>simp [intOf]; omega
  ·go_wp2_with (first | (at_builtin; refine push_law rfl _ _ rfl rfl rfl _ HO.out (byte_lo (q:=q) (by omega)) (by omega) hBs HB.out ?_; intro v1 w1 HO1 HB1))
   go_ret
   refine ⟨_,rfl,?_,HB1.out⟩
   rw [<- HE.out,Num.enc_lo (by omega)]
   exact HO1.out
set_option maxRecDepth 100000 in
set_option maxHeartbeats 1000000 in
theorem put_any {A:Option Addr} {k c:Nat} {l:List UInt8} {w:World} (n:Int) (h1:-9223372036854775808<=n) (h2:n<=9223372036854775807) (h:Rd w A k c l) (hl:k<=140737488350000) :
  Calls Tryd.prog 53 #[.slice A k c,.int .i64 n] w fun e w'=>∃ v',e = .returned v'/\Ow w' w.heap.size v' (l ++ Num.enc (Num.zig n))/\Below w.heap.size w w':=by
 have hk:=h.len
 have HK:=Lib.hid hk
 clear hk
 have HR:=Lib.hid h
 clear h
 go_enter Tryd.func53,Tryd.ntmps53
 go_wp2_with fail
 refine (room_any 10 HR.out (by omega)).mono ?_
 rintro e w1 ⟨rfl,HO,HB⟩
 have HO1:=Lib.hid HO
 have HB1:=Lib.hid HB
 clear HO HB
 go_wp2_with fail
 refine (app_any n h1 h2 HO1.out (by rw [HK.out]; exact hl) HB1.out.size).mono ?_
 rintro e w2 ⟨v',rfl,HO2,HB2⟩
 have HO3:=Lib.hid HO2
 have HB3:=Lib.hid HB2
 clear HO2 HB2
 go_wp2_with fail
 go_ret
 exact ⟨_,rfl,HO3.out,HB1.out.trans HB3.out⟩
theorem not_twice (n:Int) (h1:-9223372036854775808<=n) (hn:n < 0):bits .xor .u64 IntKind.u64.max (IntKind.u64.wrap (IntKind.u64.wrap n * 2))=((Num.zig n:Nat):Int):=by
 have e:IntKind.u64.wrap (IntKind.u64.wrap n * 2)=(((18446744073709551616 + 2 * n).toNat:Nat):Int):=by
  rw [IntKind.wrap_u64,IntKind.wrap_u64]
  omega
 rw [e]
 show IntKind.u64.wrap ((BitVec.ofInt 64 IntKind.u64.max ^^^ BitVec.ofInt 64 _).toNat:Int)=_
 have h1':BitVec.ofInt 64 IntKind.u64.max=BitVec.allOnes 64:=by decide
 rw [h1',BitVec.allOnes_xor,BitVec.toNat_not,ofInt_u64 _ (by omega),IntKind.wrap_u64]
 unfold Num.zig
 rw [if_pos hn]
 omega
theorem twice (n:Int) (h0:0<=n):(n:Int) * 2=((Num.zig n:Nat):Int):=by
 unfold Num.zig
 rw [if_neg (by omega)]
 omega
theorem byte_hi2 (q:Nat):IntKind.u8.wrap ((q:Int) % 128 + 128)=((UInt8.ofNat (q % 128 + 128)).toNat:Int):=by
 rw [IntKind.wrap_u8]
 simp
set_option maxRecDepth 100000 in
set_option maxHeartbeats 1000000 in
theorem rput_any (n:Int) (w:World) (h1:-9223372036854775808<=n) (h2:n<=9223372036854775807) :
  Calls Tryd.prog 29 #[.int .i64 n] w fun e w'=>∃ v',e = .returned v'/\Ow w' w.heap.size v' (Num.enc (Num.zig n))/\Below w.heap.size w w':=by
 have hz:=Num.zig_lt n h1 h2
 by_cases hn:n < 0
 all_goals
  first
   | have hx:=not_twice n h1 hn
   | have hx:=twice n (by omega)
  generalize Num.zig n=z at hz hx
  go_enter Tryd.func29,Tryd.ntmps29
  go_wp2
  clear hx
  go_loopw [3,4] (fun u s wr=>∃ (q:Nat) (l':List UInt8),q < 18446744073709551616/\Hid (l' ++ Num.enc q=Num.enc z)/\Hid (Ow wr w.heap.size s l')/\Hid (Below w.heap.size w wr)/\u = .int .u64 q) (fun u _ _=>(intOf u).toNat)
  case atStart=>exact ⟨z,[],hz,rfl,Ow.empty _ _,Below.refl _ _,rfl⟩
  case round =>
   obtain ⟨q,l',hq,HE,HO,HB,rfl⟩:=hrel
   have hlen:l'.length<=10:=by
    have e:=congrArg List.length HE.out
    have:=Num.enc_len10 hz
    simp only [List.length_append] at e
    omega
   have hBs:w.heap.size<=wr.heap.size:=HB.out.size
   clear hz
   by_cases hc:128<=q
   ·go_wp2_with (first | (at_builtin; refine push_law rfl _ _ rfl rfl rfl _ HO.out (by first | exact byte_hi q | exact byte_hi2 q) (by omega) hBs HB.out ?_; intro v1 w1 HO1 HB1))
    go_roundw
    case rel=>exact ⟨q / 128,_,by omega,by unfold Hid; rw [List.append_assoc,<- HE.out,Num.enc_hi hc]; rfl,HO1,HB1,by go_num⟩
    case measure=>simp [intOf]; omega
   ·go_wp2_with (first | (at_builtin; refine push_law rfl _ _ rfl rfl rfl _ HO.out (byte_lo (q:=q) (by omega)) (by omega) hBs HB.out ?_; intro v1 w1 HO1 HB1))
    go_ret
    refine ⟨_,rfl,?_,HB1.out⟩
    rw [<- HE.out,Num.enc_lo (by omega)]
    exact HO1.out
end Go.Proofs.YtajgjeialbgijaaDoor
