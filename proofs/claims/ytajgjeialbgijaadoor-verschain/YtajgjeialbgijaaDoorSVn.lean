import Derived.Test.YtajgjeialbgijaaDoorSVh
namespace Go.Proofs.YtajgjeialbgijaaDoor
set_option linter.unusedVariables false
set_option linter.unusedSimpArgs false
set_option maxRecDepth 100000
open Go.RowKit Vs
theorem isc_any (c:Int) (w:World):Calls Tryd.prog 21 #[.int .i64 c] w fun e w'=>e = .returned (.bool (isC c))/\w=w':=by
 obtain ⟨b,hb⟩:∃ b,b=isC c:=⟨_,rfl⟩
 rw [<- hb]
 have HB:=Lib.hid hb
 clear hb
 by_cases h1:1<=c
 ·by_cases h2:c<=4
  ·obtain rfl:b=true:=by rw [HB.out]; simp [isC,h1,h2]
   have d1:decide ((1:Int)<=c)=true:=by simp [h1]
   have d2:decide (c<=(4:Int))=true:=by simp [h2]
   go_enter Tryd.func21,Tryd.ntmps21
   go_wp2_with fail
   go_ret
   exact ⟨rfl,rfl⟩
  ·obtain rfl:b=false:=by rw [HB.out]; simp [isC]; omega
   have d1:decide ((1:Int)<=c)=true:=by simp [h1]
   have d2:decide (c<=(4:Int))=false:=by simp [h2]
   go_enter Tryd.func21,Tryd.ntmps21
   go_wp2_with fail
   go_ret
   exact ⟨rfl,rfl⟩
 ·obtain rfl:b=false:=by rw [HB.out]; simp [isC]; omega
  have d1:decide ((1:Int)<=c)=false:=by simp [h1]
  go_enter Tryd.func21,Tryd.ntmps21
  go_wp2_with fail
  go_ret
  exact ⟨rfl,rfl⟩
theorem within_any (n l:Int) (w:World):Calls Tryd.prog 24 #[.int .i64 n,.int .i64 l] w fun e w'=>e = .returned (.bool (lim n l))/\w=w':=by
 obtain ⟨b,hb⟩:∃ b,b=lim n l:=⟨_,rfl⟩
 rw [<- hb]
 have HB:=Lib.hid hb
 clear hb
 by_cases h1:l<=n
 ·by_cases h2:n<=150
  ·obtain rfl:b=true:=by rw [HB.out]; simp [lim,h1,h2]
   have d1:decide (l<=n)=true:=by simp [h1]
   have d2:decide (n<=(150:Int))=true:=by simp [h2]
   go_enter Tryd.func24,Tryd.ntmps24
   go_wp2_with fail
   go_ret
   exact ⟨rfl,rfl⟩
  ·obtain rfl:b=false:=by rw [HB.out]; simp [lim]; omega
   have d1:decide (l<=n)=true:=by simp [h1]
   have d2:decide (n<=(150:Int))=false:=by simp [h2]
   go_enter Tryd.func24,Tryd.ntmps24
   go_wp2_with fail
   go_ret
   exact ⟨rfl,rfl⟩
 ·obtain rfl:b=false:=by rw [HB.out]; simp [lim]; omega
  have d1:decide (l<=n)=false:=by simp [h1]
  go_enter Tryd.func24,Tryd.ntmps24
  go_wp2_with fail
  go_ret
  exact ⟨rfl,rfl⟩
def moreOf (n:Int):Int:=if n=top then 0 else n + 1
theorem more_any {n:Int} (h:In n) (w:World):Calls Tryd.prog 22 #[.int .i64 n] w fun e w'=>e = .returned (.tuple #[.int .i64 (moreOf n),.bool (decide (n ≠ top))])/\w=w':=by
 by_cases h1:n=top
 ·subst h1
  rw [show moreOf top=0 from rfl,show decide (top ≠ top)=false by simp]
  unfold top
  go_enter Tryd.func22,Tryd.ntmps22
  go_wp2_with fail
  go_ret2
  exact ⟨rfl,rfl⟩
 ·obtain ⟨m,hm⟩:∃ m,m=n + 1:=⟨_,rfl⟩
  rw [show moreOf n=m by simp [moreOf,h1,hm],show decide (n ≠ top)=true by simp [h1]]
  have d1:(n == (9223372036854775807:Int))=false:=by simpa [top] using h1
  have d2:IntKind.i64.wrap (n + 1)=m:=by
   rw [hm,IntKind.wrap_i64]
   unfold In top at *
   omega
  clear hm h
  go_enter Tryd.func22,Tryd.ntmps22
  go_wp2_with fail
  go_ret2
  exact ⟨rfl,rfl⟩
theorem epf_any {l n:Int} (h:In l) (w:World):Calls Tryd.prog 23 #[.int .i64 l,.int .i64 n] w fun e w'=>e = .returned (.bool (epF l n))/\w=w':=by
 obtain ⟨b,hb⟩:∃ b,b=epF l n:=⟨_,rfl⟩
 rw [<- hb]
 have HB:=Lib.hid hb
 clear hb
 have CM:=Lib.hid (fun W=>more_any h W)
 clear h
 by_cases h1:n=l
 ·obtain rfl:b=true:=by rw [HB.out]; simp [epF,h1]
  have d1:(n == l)=true:=by simpa using h1
  clear h1
  obtain ⟨m,hm⟩:∃ m,m=moreOf l:=⟨_,rfl⟩
  obtain ⟨q,hq⟩:∃ q,q=decide (l ≠ top):=⟨_,rfl⟩
  rw [<- hm,<- hq] at CM
  clear hm hq
  go_enter Tryd.func23,Tryd.ntmps23
  go_wp2_with (first | (go_at_call 22; refine (CM.out _).mono ?_; rintro e w2 ⟨rfl,rfl⟩))
  go_ret
  exact ⟨rfl,rfl⟩
 ·have d1:(n == l)=false:=by simpa using h1
  by_cases h2:l=top
  ·obtain rfl:b=false:=by rw [HB.out]; simp [epF,h1,h2]; exact fun e=>h1 (by rw [e,h2])
   rw [show decide (l ≠ top)=false by simp [h2]] at CM
   obtain ⟨m,hm⟩:∃ m,m=moreOf l:=⟨_,rfl⟩
   rw [<- hm] at CM
   clear hm h1 h2
   go_enter Tryd.func23,Tryd.ntmps23
   go_wp2_with (first | (go_at_call 22; refine (CM.out _).mono ?_; rintro e w2 ⟨rfl,rfl⟩))
   go_ret
   exact ⟨rfl,rfl⟩
  ·rw [show decide (l ≠ top)=true by simp [h2]] at CM
   obtain ⟨m,hm⟩:∃ m,m=moreOf l:=⟨_,rfl⟩
   rw [<- hm] at CM
   have hm2:m=l + 1:=by rw [hm]; simp [moreOf,h2]
   obtain rfl:b=(n == m):=by rw [HB.out,hm2]; simp [epF,h1,h2]; rfl
   clear hm h1 h2 hm2 HB
   go_enter Tryd.func23,Tryd.ntmps23
   go_wp2_with (first | (go_at_call 22; refine (CM.out _).mono ?_; rintro e w2 ⟨rfl,rfl⟩))
   go_ret
   exact ⟨rfl,rfl⟩
set_option maxRecDepth 100000 in
set_option maxHeartbeats 2000000 in
theorem vmay_any {v:V} (h:Ok v) (w:World):Calls Tryd.prog 10 #[vval v] w fun e w'=>e = .returned (.bool (may v))/\Below w.heap.size w w':=by
 obtain ⟨res,hres⟩:∃ b,b=may v:=⟨_,rfl⟩
 rw [<- hres]
 have HRS:=Lib.hid hres
 have HEP:=Lib.hid (at_ep h)
 have HLV:=Lib.hid (lay_vec h)
 have hvl:=h.vec
 have IVC:Hid ((Tryd.prog.info? 28).map (·.size)=some (v.vec.map iv).length):=by unfold Hid; rw [List.length_map,hvl]; kernel_rfl
 have CC:=Lib.hid isc_any
 have CL:=Lib.hid within_any
 have X0:=Lib.hid (alloc_below w (.cells v.cells.toArray 30))
 have B0:=Lib.hid (Blk.new w 30 v.cells)
 have HIX:Hid (∀ k:Nat,k < 4->∀ W,(Instr.index 28 (.agg (v.vec.map iv).toArray) (.int .i64 (k:Int))).run Tryd.prog W = .ok (.int .i64 (v.vec.getD k 0)) W):=fun k hk W =>
  run_index_one W 28 2 4 _ Tryd.underlying28 Tryd.underlying2 rfl (by kernel_rfl) _ k hk _ (by rw [List.getElem?_map,List.getElem?_eq_getElem (by omega),Option.map_some,List.getD_eq_getElem?_getD,List.getElem?_eq_getElem (by omega)]; rfl)
 unfold vval
 clear hres h
 go_enter Tryd.func10,Tryd.ntmps10
 go_upto_region 1 with (fail)
 generalize w.alloc (.cells v.cells.toArray 30)=w1 at *
 obtain ⟨L,hL⟩:∃ L,L=v.vec.map iv:=⟨_,rfl⟩
 rw [<- hL] at HLV IVC HIX
 clear hL
 go_wp2_with (first
  | (with_reducible refine load_law rfl 28 (.tmp 5) rfl w.heap.size 68 rfl L _ Tryd.underlying28 rfl IVC.out (B0.out.at_ HLV.out) ?_))
 go_loopw [7] (fun i wr=>∃ k:Nat,k<=4/\i = .int .i64 (k:Int)/\Hid (∀ z ∈ v.vec.take k,lim z 0=true)/\Hid (w1=wr)) (fun i _=>4 - (intOf i).toNat)
 case atStart=>exact ⟨0,by omega,rfl,by unfold Hid; simp,rfl⟩
 case round =>
  obtain ⟨k,hk,rfl,HA,HW⟩:=hrel
  have hw:=HW.out
  subst hw
  clear HW
  by_cases hk4:k < 4
  ·have hlb:decide ((k:Int) < 4)=true:=by simp; omega
   have hix:=HIX.out k hk4
   obtain ⟨z,hz⟩:∃ z,z=v.vec.getD k 0:=⟨_,rfl⟩
   rw [<- hz] at hix
   have HZ:=Lib.hid hz
   obtain ⟨b,hb⟩:∃ b,lim z 0=b:=⟨_,rfl⟩
   clear hz
   cases b with
   | true =>
    go_wp2_with (first | (go_at_call 24; refine (CL.out _ _ _).mono ?_; rintro e w2 ⟨rfl,rfl⟩))
    go_roundw
    case rel=>exact ⟨k + 1,by omega,by go_num,fun y hy=>by
     rw [List.take_succ_eq_append_getElem (by omega)] at hy
     rcases List.mem_append.1 hy with hy | hy
     ·exact HA.out y hy
     ·simp at hy
      subst hy
      rw [<- hb,HZ.out,List.getD_eq_getElem?_getD,List.getElem?_eq_getElem (by omega)]
      rfl,trivial⟩
    case measure=>simp [intOf]; omega
   | false =>
    obtain rfl:res=false:=by
     rw [HRS.out,may]
     have:v.vec.all (fun z=>lim z 0)=false:=by
      rw [List.all_eq_false]
      exact ⟨z,by rw [HZ.out,List.getD_eq_getElem?_getD,List.getElem?_eq_getElem (by omega)]; exact List.getElem_mem _,by simp [hb]⟩
     rw [this]
     rfl
    go_wp2_with (first | (go_at_call 24; refine (CL.out _ _ _).mono ?_; rintro e w2 ⟨rfl,rfl⟩))
    go_ret
    exact ⟨rfl,X0.out⟩
  ·obtain rfl:k=4:=by omega
   have hall:v.vec.all (fun z=>lim z 0)=true:=by
    rw [List.all_eq_true]
    intro z hz
    exact HA.out z (by rw [List.take_of_length_le (by omega)]; exact hz)
   have e0:res=(isC v.client && (lim v.n 1 && (lim v.count 1 && lim v.ep 0))):=by rw [HRS.out,may,hall]; rfl
   have HE:=Lib.hid e0
   clear e0 hall HA HRS
   have c0:w1.cell? ⟨w.heap.size,0,none⟩=some (.int .i64 v.client):=B0.out.cell 0
   have c1:w1.cell? ⟨w.heap.size,1,none⟩=some (.int .i64 v.n):=B0.out.cell 1
   have c2:w1.cell? ⟨w.heap.size,2,none⟩=some (.int .i64 v.count):=B0.out.cell 2
   have c3:w1.cell? ⟨w.heap.size,67,none⟩=some (.int .i64 v.ep):=(B0.out.cell 67).trans HEP.out
   obtain ⟨b1,e1⟩:∃ b,isC v.client=b:=⟨_,rfl⟩
   obtain ⟨b2,e2⟩:∃ b,lim v.n 1=b:=⟨_,rfl⟩
   obtain ⟨b3,e3⟩:∃ b,lim v.count 1=b:=⟨_,rfl⟩
   obtain ⟨b4,e4⟩:∃ b,lim v.ep 0=b:=⟨_,rfl⟩
   rw [e1,e2,e3,e4] at HE
   cases b1 with
   | false =>
    obtain rfl:res=false:=HE.out
    go_wp2_with (first
     | (go_at_call 21; refine (CC.out _ _).mono ?_; rintro e w2 ⟨rfl,rfl⟩)
     | (go_at_call 24; refine (CL.out _ _ _).mono ?_; rintro e w2 ⟨rfl,rfl⟩))
    go_ret
    exact ⟨rfl,X0.out⟩
   | true =>
    cases b2 with
    | false =>
     obtain rfl:res=false:=HE.out
     go_wp2_with (first
      | (go_at_call 21; refine (CC.out _ _).mono ?_; rintro e w2 ⟨rfl,rfl⟩)
      | (go_at_call 24; refine (CL.out _ _ _).mono ?_; rintro e w2 ⟨rfl,rfl⟩))
     go_ret
     exact ⟨rfl,X0.out⟩
    | true =>
     cases b3 with
     | false =>
      obtain rfl:res=false:=HE.out
      go_wp2_with (first
       | (go_at_call 21; refine (CC.out _ _).mono ?_; rintro e w2 ⟨rfl,rfl⟩)
       | (go_at_call 24; refine (CL.out _ _ _).mono ?_; rintro e w2 ⟨rfl,rfl⟩))
      go_ret
      exact ⟨rfl,X0.out⟩
     | true =>
      obtain rfl:res=b4:=by rw [HE.out]; simp
      clear HE
      go_wp2_with (first
       | (go_at_call 21; refine (CC.out _ _).mono ?_; rintro e w2 ⟨rfl,rfl⟩)
       | (go_at_call 24; refine (CL.out _ _ _).mono ?_; rintro e w2 ⟨rfl,rfl⟩))
      go_ret
      exact ⟨rfl,X0.out⟩
end Go.Proofs.YtajgjeialbgijaaDoor
