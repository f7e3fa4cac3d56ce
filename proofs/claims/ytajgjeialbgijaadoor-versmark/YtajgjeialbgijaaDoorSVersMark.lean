import Derived.Deep.CutRange
import Derived.Deep.CutBlock
import Derived.Deep.DeepCutAuto
import Derived.Laws.Closers25b
import Derived.Test.YtajgjeialbgijaaDoorSVbg
import Derived.Test.YtajgjeialbgijaaDoorSVr
import Derived.Test.YtajgjeialbgijaaDoorSVw
namespace Go.Proofs.YtajgjeialbgijaaDoor.versMark
set_option linter.unusedVariables false
set_option linter.unusedSimpArgs false
set_option maxRecDepth 100000
open Go.RowKit Vs
theorem turn6 (t:Int):∃ k:Int,(k=0 ∨ k=1 ∨ k=2 ∨ k=3 ∨ k=4 ∨ k=5)/\(t.tmod 6 + 6).tmod 6=k:=by
 have h0:-6 < t.tmod 6:=by
  rcases Int.le_total 0 t with h | h
  ·have:=Int.tmod_nonneg 6 h; omega
  ·have h3:=Int.tmod_lt_of_pos (-t) (show (0:Int) < 6 by decide)
   rw [Int.neg_tmod] at h3
   omega
 have:=Int.tmod_lt_of_pos (t.tmod 6 + 6) (show (0:Int) < 6 by decide)
 have:=Int.tmod_nonneg 6 (show 0<=t.tmod 6 + 6 by omega)
 exact ⟨_,by omega,rfl⟩
theorem turn6w (t:Int):IntKind.i64.wrap (t.tmod 6 + 6)=t.tmod 6 + 6:=by
 have h1:=Int.tmod_lt_of_pos t (show (0:Int) < 6 by decide)
 have h2:-6 < t.tmod 6:=by
  rcases Int.le_total 0 t with h | h
  ·have:=Int.tmod_nonneg 6 h; omega
  ·have h3:=Int.tmod_lt_of_pos (-t) (show (0:Int) < 6 by decide)
   rw [Int.neg_tmod] at h3
   omega
 rw [IntKind.wrap_i64]
 omega
theorem xor_in (a b:Int):In (bits .xor .i64 a b):=by
 unfold In
 exact ⟨bits_lo_i64 _ _ _,bits_hi_i64 _ _ _⟩
theorem ok_n {v:V} (h:Ok v) {z:Int} (hz:In z):Ok { v with n:=z }:=⟨h.prev,h.root,h.vec,h.tag,h.client,hz,h.count,h.ep,h.each⟩
theorem ok_count {v:V} (h:Ok v) {z:Int} (hz:In z):Ok { v with count:=z }:=⟨h.prev,h.root,h.vec,h.tag,h.client,h.n,hz,h.ep,h.each⟩
theorem ok_prev {v:V} (h:Ok v) (j:Nat) (y:UInt8):Ok { v with prev:=v.prev.set j y }:=⟨(by rw [List.length_set]; exact h.prev),h.root,h.vec,h.tag,h.client,h.n,h.count,h.ep,h.each⟩
theorem ok_root {v:V} (h:Ok v) (j:Nat) (y:UInt8):Ok { v with root:=v.root.set j y }:=⟨h.prev,(by rw [List.length_set]; exact h.root),h.vec,h.tag,h.client,h.n,h.count,h.ep,h.each⟩
theorem ok_tag {v:V} (h:Ok v) (j:Nat) (y:UInt8):Ok { v with tag:=v.tag.set j y }:=⟨h.prev,h.root,h.vec,(by rw [List.length_set]; exact h.tag),h.client,h.n,h.count,h.ep,h.each⟩
theorem ok_vec {v:V} (h:Ok v) (j:Nat) {y:Int} (hy:In y):Ok { v with vec:=v.vec.set j y }:=⟨h.prev,h.root,(by rw [List.length_set]; exact h.vec),h.tag,h.client,h.n,h.count,h.ep,fun z hz=>by
 rcases List.mem_or_eq_of_mem_set hz with h1 | h1
 ·exact h.each z h1
 ·rw [h1]; exact hy⟩
theorem put_n {w:World} {q:Nat} {v:V} {z:Int} (h:Blk w q 30 (v.cells.set 1 (.int .i64 z))):Blk w q 30 ({ v with n:=z }:V).cells:=h
theorem put_count {w:World} {q:Nat} {v:V} {z:Int} (h:Blk w q 30 (v.cells.set 2 (.int .i64 z))):Blk w q 30 ({ v with count:=z }:V).cells:=h
theorem put_prev5 {w:World} {q:Nat} {v:V} (ho:Ok v) {y:UInt8} {x:Value} (hx:x=cellOf y) (h:Blk w q 30 (v.cells.set 8 x)):Blk w q 30 ({ v with prev:=v.prev.set 5 y }:V).cells:=by
 rw [hx,set_prev ho 5 y (by omega)] at h
 exact h
theorem put_root31 {w:World} {q:Nat} {v:V} (ho:Ok v) {y:UInt8} {x:Value} (hx:x=cellOf y) (h:Blk w q 30 (v.cells.set 66 x)):Blk w q 30 ({ v with root:=v.root.set 31 y }:V).cells:=by
 rw [hx,set_root ho 31 y (by omega)] at h
 exact h
theorem put_tag7 {w:World} {q:Nat} {v:V} (ho:Ok v) {y:UInt8} {x:Value} (hx:x=cellOf y) (h:Blk w q 30 (v.cells.set 79 x)):Blk w q 30 ({ v with tag:=v.tag.set 7 y }:V).cells:=by
 rw [hx,set_tag ho 7 y (by omega)] at h
 exact h
theorem put_vec2 {w:World} {q:Nat} {v:V} (ho:Ok v) {z:Int} (h:Blk w q 30 (v.cells.set 70 (.int .i64 z))):Blk w q 30 ({ v with vec:=v.vec.set 2 z }:V).cells:=by
 rw [set_vec ho 2 z (by omega)] at h
 exact h
theorem get_prev5 {v:V} (ho:Ok v):∃ y:UInt8,v.cells[8]?=some (.int .u8 (y.toNat:Int)):=by
 obtain ⟨y,hy⟩:∃ y,v.prev[5]?=some y:=⟨_,List.getElem?_eq_getElem (by rw [ho.prev]; omega)⟩
 exact ⟨y,lay_prev ho 5 _ (by rw [List.getElem?_map,hy]; rfl)⟩
theorem get_root31 {v:V} (ho:Ok v):∃ y:UInt8,v.cells[66]?=some (.int .u8 (y.toNat:Int)):=by
 obtain ⟨y,hy⟩:∃ y,v.root[31]?=some y:=⟨_,List.getElem?_eq_getElem (by rw [ho.root]; omega)⟩
 exact ⟨y,lay_root ho 31 _ (by rw [List.getElem?_map,hy]; rfl)⟩
theorem get_tag7 {v:V} (ho:Ok v):∃ y:UInt8,v.cells[79]?=some (.int .u8 (y.toNat:Int)):=by
 obtain ⟨y,hy⟩:∃ y,v.tag[7]?=some y:=⟨_,List.getElem?_eq_getElem (by rw [ho.tag]; omega)⟩
 exact ⟨y,lay_tag ho 7 _ (by rw [List.getElem?_map,hy]; rfl)⟩
theorem get_vec2 {v:V} (ho:Ok v):∃ y:Int,v.cells[70]?=some (.int .i64 y):=by
 obtain ⟨y,hy⟩:∃ y,v.vec[2]?=some y:=⟨_,List.getElem?_eq_getElem (by rw [ho.vec]; omega)⟩
 exact ⟨y,lay_vec ho 2 _ (by rw [List.getElem?_map,hy]; rfl)⟩
theorem storeP_law {P:Program} {ops:Array Oper} {rest:List Oper} {o:Oper} {a:Act} {w:World} {Q:Exit->Act->World->Prop} (hgd:o.guard=none) (ty:TypeId) (x y:Operand) (ho:o.op = .store ty x y)
  (g off:Nat) (hx:a.eval x = .pointer (some ⟨g,off,none⟩)) (vs:List Value) (hy:a.eval y = .agg vs.toArray) (t:TypeId) (cs cs':List Value) (hb:Blk w g t cs) (hi:(P.info? ty).map (·.size)=some vs.length)
  (hfit:off + vs.length<=cs.length) (h1:∀ v ∈ vs,v.oneCell'=true) (he:cs.take off ++ vs ++ cs.drop (off + vs.length)=cs') (hk:wpList P ops Q rest (a.put o.dst undef) (w.setRow g cs'.toArray)):wpList P ops Q (o :: rest) a w :=
 wpList_step fun K hK=>step_storeP hgd ty x y ho g off hx vs hy t cs cs' hb hi hfit h1 he (hK _ _ hk)
set_option maxRecDepth 100000 in
set_option maxHeartbeats 4000000 in
theorem walk {P:BxP} (hB:BoxOk P) (ideal:Bool) {a:V} (ha:Ok a) (key:UInt8) (which:Int) (x:UInt8) (w:World) (hg:Gl w):Calls Tryd.prog 4 #[.bool ideal,vval a,.int .u8 (key.toNat:Int),.int .i64 which,.int .u8 (x.toNat:Int)] w fun e w'=>e = .returned (.bool true)/\Below w.heap.size w w':=by
 have HG:=Lib.hid hg
 have hsz:=hg.size
 have CG:Hid (∀ W,Gl W->Calls Tryd.prog 7 #[] W fun e w'=>e = .returned (.bool true)/\Below W.heap.size W w'):=fun W hW=>begun14_any hB hW
 have ZB:=Lib.hid zero_blk
 obtain ⟨tag,ok,J0,J1,J2,hM⟩:=mark_any hB ha (key1_length key) ideal
 have HMK:=Lib.hid hM
 obtain ⟨s,hs⟩:∃ s,s=({ a with tag:=tag }:V):=⟨_,rfl⟩
 have hso:Ok s:=by rw [hs]; exact signed_ok ha hM.tl
 have HSO:=Lib.hid hso
 have hok:ok s=true:=by rw [hs]; exact hM.okm
 obtain ⟨KA,hKA⟩:∃ X,X=(key1 key).map cellOf:=⟨_,rfl⟩
 have HKA:=Lib.hid hKA
 have BK:=Lib.hid (key1_built key)
 obtain ⟨za,hza⟩:∃ z:Int,z=(key.toNat:Int):=⟨_,rfl⟩
 rw [<- hza] at BK ⊢
 rw [<- hKA] at BK
 obtain ⟨zx,hzx⟩:∃ z:Int,z=(x.toNat:Int):=⟨_,rfl⟩
 rw [<- hzx]
 have HZX:=Lib.hid hzx
 obtain ⟨AC,hAC⟩:∃ X,X=a.cells:=⟨_,rfl⟩
 obtain ⟨SC,hSC⟩:∃ X,X=s.cells:=⟨_,rfl⟩
 obtain ⟨TC,hTC⟩:∃ X,X=tag.map cellOf:=⟨_,rfl⟩
 have CBO:Hid (∀ W:World,Calls Tryd.prog 11 #[.int .i64 (modeOf ideal),.int .i64 3] W fun e w'=>∃ gx gy,e = .returned (.tuple #[.pointer (some ⟨gx,0,none⟩),.pointer (some ⟨gy,0,none⟩)])/\J0 W.heap.size w' gx gy/\Below W.heap.size W w'):=hM.both
 have CSG:Hid (∀ (B:Nat) (W:World) (gx gy:Nat),Gl W->2<=B->B<=W.heap.size->J0 B W gx gy->Calls Tryd.prog 12 #[.pointer (some ⟨gx,0,none⟩),.agg KA.toArray,.agg AC.toArray] W fun e w'=>e = .returned (.agg SC.toArray)/\(∃ F,J1 B w' gx gy F)/\Below B W w'):=fun B W gx gy h1 h2 h3 h4=>by
  have:=hM.sign h1 h2 h3 h4
  rw [<- hs] at this
  rw [hKA,hAC,hSC]
  exact this
 have CMK:Hid (∀ (B:Nat) (W:World) (gx gy:Nat) (F:Nat->Prop) (A:Option Addr) (n c:Nat),B<=W.heap.size->J1 B W gx gy F->Rd W A n c (vbytes a)->(∀ x:Addr,A=some x->0 < n->x.block ≠ gy)->Calls Tryd.prog 13 #[.pointer (some ⟨gy,0,none⟩),.agg KA.toArray,.slice A n c] W fun e w'=>e = .returned (.agg TC.toArray)/\(∃ F',J2 B w' gx gy F'/\∀ b,F' b->F b ∨ W.heap.size<=b)/\Fr F W w'):=fun B W gx gy F A n c h1 h2 h3 h4=>by
  rw [hKA,hTC]
  exact hM.mark h1 h2 h3 h4
 have CBA:Hid (∀ W,Calls Tryd.prog 14 #[.agg AC.toArray] W fun e w'=>∃ x,e = .returned x/\Ow w' W.heap.size x (vbytes a)/\Below W.heap.size W w'):=fun W=>by rw [hAC]; exact rbytes_any ha W
 have CIS:Hid (∀ (B:Nat) (W:World) (gx gy:Nat) (F:Nat->Prop),Gl W->J2 B W gx gy F->Calls Tryd.prog 15 #[.pointer (some ⟨gx,0,none⟩),.agg KA.toArray,.agg SC.toArray] W fun e w'=>e = .returned (.bool true)/\Below W.heap.size W w'):=fun B W gx gy F h1 h2=>by
  have:=hM.isP hso h1 h2
  rw [hok] at this
  rw [hKA,hSC]
  exact this
 have eVV:=fun W=>vers_eq hso hso W
 rw [decide_eq_true rfl,<- hSC] at eVV
 have IA:=Lib.hid (vinfo ha)
 have OA:=Lib.hid (cells_one a)
 have IS:=Lib.hid (vinfo hso)
 have OS:=Lib.hid (cells_one s)
 have LA:Hid (AC.length=104):=by unfold Hid; rw [hAC]; exact cells_length ha
 have LZA:Hid (zero.cells.length=AC.length):=by unfold Hid; rw [LA.out]; exact cells_length zero_ok
 have LZS:Hid (zero.cells.length=SC.length):=by unfold Hid; rw [hSC,cells_length hso]; exact cells_length zero_ok
 have IT:Hid ((Tryd.prog.info? 27).map (·.size)=some TC.length):=by unfold Hid; rw [hTC]; exact hinfo hM.tl
 have OT:Hid (∀ u ∈ TC,u.oneCell'=true):=by unfold Hid; rw [hTC]; exact cells_u8 _
 have LT:Hid (TC.length=32):=by unfold Hid; rw [hTC,List.length_map]; exact hM.tl
 have PT:Hid (AC.take 72 ++ TC ++ AC.drop (72 + TC.length)=SC):=by unfold Hid; rw [hAC,hTC,hSC,hs]; exact put_tag ha tag hM.tl
 rw [<- hAC] at IA OA
 rw [<- hSC] at IS OS
 have HSC:=Lib.hid hSC
 unfold vval
 rw [<- hAC]
 obtain ⟨z6,hk6,e4⟩:=turn6 which
 have e5:=turn6w which
 have HK6:=Lib.hid hk6
 have W:=Lib.hid (Below.refl w.heap.size w)
 clear hg hB hM hs hso hok hKA hza hzx hAC hSC hTC hk6
 go_enter Tryd.func4,Tryd.ntmps4
 go_upto_region 1 with (fail)
 have B6:Hid (Blk (w.alloc (.cells AC.toArray 30)) w.heap.size 30 AC):=Blk.new w _ _
 have hX:=alloc_below w (.cells AC.toArray 30)
 replace W:=Lib.hid (W.out.trans (hX.mono W.out.size))
 clear hX
 generalize w.alloc (.cells AC.toArray 30)=w1 at *
 obtain ⟨q6,hq6⟩:∃ q,q=w.heap.size:=⟨_,rfl⟩
 rw [<- hq6] at B6 ⊢
 clear hq6
 go_upto_if 20 with (first
  | (go_at_call 7; (with_reducible refine (CG.out _ (HG.out.below W.out hsz)).mono ?_); rintro e w2 ⟨rfl,hX⟩; replace B6:=Lib.hid (B6.out.below hX B6.out.lt); replace W:=Lib.hid (W.out.trans (hX.mono W.out.size)); clear hX))
 go_cut [12] from 17 to 118 (fun v wx=>v = .int .i64 (modeOf ideal)/\Hid (w2=wx))
 case first =>
  cases ideal with
  | false =>
   go_wp2_with fail
   go_meet
   case rel=>exact ⟨rfl,rfl⟩
  | true =>
   go_wp2_with fail
   go_meet
   case rel=>exact ⟨rfl,rfl⟩
 case rest =>
  obtain ⟨rfl,HW⟩:=hcut
  have hw:=HW.out
  subst hw
  clear HW
  obtain ⟨z0,hz0⟩:∃ z,z=w2.heap.size:=⟨_,rfl⟩
  have hz1:w.heap.size<=z0:=by rw [hz0]; exact W.out.size
  have hq6:q6 < z0:=by rw [hz0]; exact B6.out.lt
  have HZ0:=Lib.hid hz0
  clear hz0
  go_upto_region 9 with (first
   | (go_at_call 11; (with_reducible refine (CBO.out _).mono ?_); rintro e w3 ⟨gx,gy,rfl,hJ,hX⟩; have JF:Hid (J0 z0 w3 gx gy):=(by rw [HZ0.out]; exact hJ); have HZ3:Hid (z0<=w3.heap.size):=(by rw [HZ0.out]; exact hX.size); clear hJ; replace B6:=Lib.hid (B6.out.below hX B6.out.lt); replace W:=Lib.hid (W.out.trans (hX.mono W.out.size)); clear hX HZ0)
   | (with_reducible refine build_law rfl 27 #[(0,.tmp 27)] rfl KA (by simp only [List.map_toArray,List.map_cons,List.map_nil]; exact built_of (BK.out) rfl) ?_)
   | (with_reducible refine load_law rfl 30 (.tmp 6) rfl q6 0 rfl AC _ Tryd.underlying30 rfl IA.out B6.out.cells ?_)
   | (go_at_call 12; (with_reducible refine (CSG.out z0 _ _ _ (HG.out.below W.out hsz) (by omega) HZ3.out JF.out).mono ?_); rintro e w4 ⟨rfl,⟨F,hJ⟩,hX⟩; have JF1:=Lib.hid hJ; replace B6:=Lib.hid (B6.out.below hX hq6); replace W:=Lib.hid (W.out.trans (hX.mono hz1)); have HZ4:Hid (z0<=w4.heap.size):=Nat.le_trans HZ3.out hX.size; have FL:Hid (∀ b,F b->b < w4.heap.size):=(HMK.out.low JF1.out).2.2; have GYL:Hid (gy < w4.heap.size):=(HMK.out.low JF1.out).2.1; have FZ:Hid (∀ b,F b->z0<=b):=HMK.out.foot JF1.out; clear hJ hX JF HZ3 CSG CBO)
   | ((with_reducible refine storeGen_law rfl 30 (.tmp 15) (.tmp 30) rfl w4.heap.size rfl SC rfl 30 zero.cells IS.out LZS.out OS.out w4.heap.size w4 ?_ ?_ (Nat.le_refl _) ?_); (exact ZB.out w4); (exact alloc_below w4 _); intro w5 BS hX'; have hX:=hX'.out; clear hX'; replace B6:=Lib.hid (B6.out.below hX B6.out.lt); replace W:=Lib.hid (W.out.trans (hX.mono W.out.size)); replace JF1:=Lib.hid (HMK.out.j1 JF1.out hX); have HZ5:Hid (z0<=w5.heap.size):=Nat.le_trans HZ4.out hX.size; clear hX))
  obtain ⟨q15,hq15⟩:∃ q,q=w4.heap.size:=⟨_,rfl⟩
  have h15:w4.heap.size < w5.heap.size:=BS.out.lt
  rw [<- hq15] at BS FL GYL HZ4 h15 ⊢
  have hz15:=HZ4.out
  have hgy:=GYL.out
  clear hq15 HZ4 GYL
  try simp only [Act.put]
  go_upto_region 10 with (first
   | (with_reducible refine load_law rfl 30 (.tmp 6) rfl q6 0 rfl AC _ Tryd.underlying30 rfl IA.out B6.out.cells ?_)
   | ((with_reducible refine storeGen_law rfl 30 (.tmp 16) (.tmp 31) rfl w5.heap.size rfl AC rfl 30 zero.cells IA.out LZA.out OA.out w5.heap.size w5 ?_ ?_ (Nat.le_refl _) ?_); (exact ZB.out w5); (exact alloc_below w5 _); intro w6 BT hX'; have hX:=hX'.out; clear hX'; replace B6:=Lib.hid (B6.out.below hX B6.out.lt); replace BS:=Lib.hid (BS.out.below hX BS.out.lt); replace W:=Lib.hid (W.out.trans (hX.mono W.out.size)); replace JF1:=Lib.hid (HMK.out.j1 JF1.out hX); clear hX))
  obtain ⟨q16,hq16⟩:∃ q,q=w5.heap.size:=⟨_,rfl⟩
  have h16:w5.heap.size < w6.heap.size:=BT.out.lt
  rw [<- hq16] at BT h15 h16 ⊢
  clear hq16 HZ5
  try simp only [Act.put]
  go_upto_region 11 with (first
   | (with_reducible refine build_law rfl 27 #[(0,.tmp 33)] rfl KA (by simp only [List.map_toArray,List.map_cons,List.map_nil]; exact built_of (BK.out) rfl) ?_)
   | (with_reducible refine load_law rfl 30 (.tmp 6) rfl q6 0 rfl AC _ Tryd.underlying30 rfl IA.out B6.out.cells ?_)
   | (go_at_call 14; (with_reducible refine (CBA.out _).mono ?_); rintro e w7 ⟨xv,rfl,hO,hX⟩; obtain ⟨A0,c0,rfl,hR,hD⟩:=(hO.nw (b:=gy + 1) (by omega)); have RB:=Lib.hid hR; have HD:Hid (∀ x:Addr,A0=some x->0 < (vbytes a).length->x.block ≠ gy):=(fun x h1 h2=>by have:=hD x h1 h2; omega); clear hO hR hD; replace B6:=Lib.hid (B6.out.below hX B6.out.lt); replace BS:=Lib.hid (BS.out.below hX BS.out.lt); replace BT:=Lib.hid (BT.out.below hX BT.out.lt); replace W:=Lib.hid (W.out.trans (hX.mono W.out.size)); replace JF1:=Lib.hid (HMK.out.j1 JF1.out hX); have h17:Hid (q16 < w7.heap.size):=Nat.lt_of_lt_of_le h16 hX.size; clear hX CBA)
   | (go_at_call 13; (with_reducible refine (CMK.out z0 _ _ _ F _ _ _ (by have:=h17.out; omega) JF1.out RB.out HD.out).mono ?_); rintro e w8 ⟨rfl,⟨F2,hJ,hF2⟩,hFr⟩; have JF2:=Lib.hid hJ; have NF:Hid (¬ F2 q15/\¬ F2 q16):=(by have h1:=hF2 q15; have h2:=hF2 q16; have h3:=FL.out q15; have h4:=FL.out q16; have h5:=h17.out; exact ⟨(fun h=>by rcases h1 h with h | h; have:=h3 h; omega; omega),(fun h=>by rcases h2 h with h | h; have:=h4 h; omega; omega)⟩); replace B6:=Lib.hid (hFr.blk B6.out (fun h=>by have:=FZ.out _ h; omega)); replace BS:=Lib.hid (hFr.blk BS.out (fun h=>by have:=FL.out _ h; omega)); replace BT:=Lib.hid (hFr.blk BT.out (fun h=>by have:=FL.out _ h; omega)); replace W:=Lib.hid (hFr.below W.out (fun b hb=>Nat.le_trans hz1 (FZ.out b hb)) W.out.size); clear hJ hF2 hFr JF1 FL FZ RB HD h17 CMK)
   | ((with_reducible refine storeP_law rfl 27 (.tmp 38) (.tmp 37) rfl q16 72 rfl TC rfl 30 AC SC BT.out IT.out (by rw [LT.out,LA.out]; omega) OT.out PT.out ?_); have BT':Hid (Blk (w8.setRow q16 SC.toArray) q16 30 SC):=BT.out.row (cs':=SC); have BS':Hid (Blk (w8.setRow q16 SC.toArray) q15 30 SC):=BS.out.rowFar (by omega) _; have W':Hid (Below w.heap.size w (w8.setRow q16 SC.toArray)):=below_setRow W.out (by omega) _; have JF':Hid (J2 z0 (w8.setRow q16 SC.toArray) gx gy F2):=HMK.out.j2 JF2.out (setRow_below w8 (B:=0) (Nat.zero_le _) _).size (fun b hb=>setRow_other _ _ _ _ (fun e=>NF.out.2 (by rw [<- e]; exact hb))); clear BT BS W JF2 B6; have BT:=BT'; have BS:=BS'; have W:=W'; have JF2:=JF'; clear BT' BS' W' JF'; generalize w8.setRow q16 SC.toArray=w9 at *))
  clear IT OT PT LT LZA LZS
  go_upto_block 0 with (first
   | (with_reducible refine load_law rfl 30 (.tmp 15) rfl q15 0 rfl SC _ Tryd.underlying30 rfl IS.out BS.out.cells ?_)
   | (with_reducible refine load_when (by kernel_rfl) 30 (.tmp 15) rfl q15 0 rfl SC _ Tryd.underlying30 rfl IS.out BS.out.cells ?_)
   | (with_reducible refine load_law rfl 30 (.tmp 16) rfl q16 0 rfl SC _ Tryd.underlying30 rfl IS.out BT.out.cells ?_)
   | (with_reducible refine build_when (by kernel_rfl) 27 #[(0,.tmp 44)] rfl KA (by simp only [List.map_toArray,List.map_cons,List.map_nil]; exact built_of (BK.out) rfl) ?_)
   | (go_at_call 15; (with_reducible refine (CIS.out z0 _ _ _ F2 (HG.out.below W.out hsz) JF2.out).mono ?_); rintro e w10 ⟨rfl,hX⟩; replace BS:=Lib.hid (BS.out.below hX BS.out.lt); replace BT:=Lib.hid (BT.out.below hX BT.out.lt); replace W:=Lib.hid (W.out.trans (hX.mono W.out.size)); replace JF2:=Lib.hid (HMK.out.j2 JF2.out hX.size (fun b hb=>hX.block b (HMK.out.low2 JF2.out b hb))); clear hX CIS))
  clear IS OS eVV BT IA OA LA ZB e5
  have HE4:=Lib.hid e4
  clear e4
  go_cut [] from 17 to 118 (fun wx=>∃ u:V,Ok u/\Hid (Blk wx q15 30 u.cells)/\Hid (J2 z0 wx gx gy F2)/\Hid (Below w.heap.size w wx))
  case first =>
   rw [HSC.out] at BS
   have f1:∀ o,w10.frozen? ⟨q15,o,none⟩=false:=fun o=>BS.out.frozen o
   have hx1:0<=zx/\zx<=255:=by rw [HZX.out]; have:=x.toNat_lt; omega
   have dw:IntKind.i64.wrap zx=zx:=by rw [IntKind.wrap_i64]; omega
   have hso:=HSO.out
   have JC:∀ o v,Hid (J2 z0 (w10.setCell ⟨q15,o,none⟩ v) gx gy F2):=fun o v=>HMK.out.j2 JF2.out (setCell_size _ _ _) (fun b hb=>Below.heap_setCell _ _ _ _ (fun e=>NF.out.1 (by have e':b=q15:=e; rw [<- e']; exact hb)))
   have WC:∀ o v,Hid (Below w.heap.size w (w10.setCell ⟨q15,o,none⟩ v)):=fun o v=>W.out.setCell (by show w.heap.size<=q15; omega) _
   have BC:∀ o v,Hid (Blk (w10.setCell ⟨q15,o,none⟩ v) q15 30 (s.cells.set o v)):=fun o v=>BS.out.set_ o v
   have XC:∀ y:UInt8,Hid (Value.int .u8 (bits .xor .u8 (y.toNat:Int) zx)=cellOf (y ^^^ x)):=fun y=>by unfold Hid; rw [HZX.out,xor_cell]; rfl
   rcases HK6.out with rfl | rfl | rfl | rfl | rfl | rfl
   ·have c1:w10.cell? ⟨q15,1,none⟩=some (.int .i64 s.n):=BS.out.cell 1
    go_wp2_with fail
    go_meet
    case rel=>exact ⟨{ s with n:=(bits .xor .i64 s.n zx) },ok_n hso (xor_in _ _),put_n (BC 1 (.int .i64 (bits .xor .i64 s.n zx))).out,JC _ _,WC _ _⟩
   ·have c1:w10.cell? ⟨q15,2,none⟩=some (.int .i64 s.count):=BS.out.cell 2
    go_wp2_with fail
    go_meet
    case rel=>exact ⟨{ s with count:=(bits .xor .i64 s.count zx) },ok_count hso (xor_in _ _),put_count (BC 2 (.int .i64 (bits .xor .i64 s.count zx))).out,JC _ _,WC _ _⟩
   ·obtain ⟨y,hy⟩:=get_prev5 hso
    have c1:w10.cell? ⟨q15,8,none⟩=some (.int .u8 (y.toNat:Int)):=(BS.out.cell 8).trans hy
    clear hy
    go_wp2_with fail
    go_meet
    case rel=>exact ⟨{ s with prev:=s.prev.set 5 (y ^^^ x) },ok_prev hso _ _,put_prev5 hso (XC y).out (BC 8 _).out,JC _ _,WC _ _⟩
   ·obtain ⟨y,hy⟩:=get_root31 hso
    have c1:w10.cell? ⟨q15,66,none⟩=some (.int .u8 (y.toNat:Int)):=(BS.out.cell 66).trans hy
    clear hy
    go_wp2_with fail
    go_meet
    case rel=>exact ⟨{ s with root:=s.root.set 31 (y ^^^ x) },ok_root hso _ _,put_root31 hso (XC y).out (BC 66 _).out,JC _ _,WC _ _⟩
   ·obtain ⟨y,hy⟩:=get_vec2 hso
    have c1:w10.cell? ⟨q15,70,none⟩=some (.int .i64 y):=(BS.out.cell 70).trans hy
    clear hy
    go_wp2_with fail
    go_meet
    case rel=>exact ⟨{ s with vec:=s.vec.set 2 (bits .xor .i64 y zx) },ok_vec hso _ (xor_in _ _),put_vec2 hso (BC 70 _).out,JC _ _,WC _ _⟩
   ·obtain ⟨y,hy⟩:=get_tag7 hso
    have c1:w10.cell? ⟨q15,79,none⟩=some (.int .u8 (y.toNat:Int)):=(BS.out.cell 79).trans hy
    clear hy
    go_wp2_with fail
    go_meet
    case rel=>exact ⟨{ s with tag:=s.tag.set 7 (y ^^^ x) },ok_tag hso _ _,put_tag7 hso (XC y).out (BC 79 _).out,JC _ _,WC _ _⟩
  case rest =>
   clear BS JF2 W
   obtain ⟨u,huo,BU,JF2,W⟩:=hcut
   have CIP:Hid (∀ W,Gl W->J2 z0 W gx gy F2->Calls Tryd.prog 15 #[.pointer (some ⟨gx,0,none⟩),.agg KA.toArray,.agg u.cells.toArray] W fun e w'=>e = .returned (.bool (ok u))/\Below W.heap.size W w'):=fun W h1 h2=>by rw [HKA.out]; exact HMK.out.isP huo h1 h2
   have CIQ:Hid (∀ (W:World) (A:Option Addr) (n c:Nat),J2 z0 W gx gy F2->Rd W A n c (vbytes u)->Calls Tryd.prog 16 #[.pointer (some ⟨gy,0,none⟩),.agg KA.toArray,.slice A n c,.agg (u.tag.map cellOf).toArray] W fun e w'=>e = .returned (.bool (ok u))/\Below W.heap.size W w'):=fun W A n c h1 h2=>by rw [HKA.out]; exact HMK.out.isQ huo h1 h2
   have CBU:Hid (∀ W,Calls Tryd.prog 14 #[.agg u.cells.toArray] W fun e w'=>∃ x,e = .returned x/\Ow w' W.heap.size x (vbytes u)/\Below W.heap.size W w'):=fun W=>rbytes_any huo W
   have IU:=Lib.hid (vinfo huo)
   have LU:Hid (∀ j x,(u.tag.map cellOf)[j]?=some x->u.cells[72 + j]?=some x):=lay_tag huo
   have IH:=Lib.hid (hinfo huo.tag)
   clear huo
   obtain ⟨UC,hUC⟩:∃ X,X=u.cells:=⟨_,rfl⟩
   rw [<- hUC] at CIP CBU IU LU BU
   obtain ⟨UT,hUT⟩:∃ X,X=u.tag.map cellOf:=⟨_,rfl⟩
   rw [<- hUT] at CIQ LU IH
   obtain ⟨okb,hokb⟩:∃ X,X=ok u:=⟨_,rfl⟩
   rw [<- hokb] at CIP CIQ
   obtain ⟨bu,hbu⟩:∃ X,X=vbytes u:=⟨_,rfl⟩
   rw [<- hbu] at CBU CIQ
   clear hUC hUT hokb hbu
   try go_upto_region 25 with (fail)
   replace BU:=Lib.hid BU.out.drew
   replace W:=Lib.hid W.out.drew
   replace JF2:Hid (J2 z0 (World.drew wc) gx gy F2):=HMK.out.j2 JF2.out (Nat.le_refl _) (fun _ _=>rfl)
   refine wp_region_any (by kernel_rfl) ?_
   change wpAny _ _ _ _ _ _ _ (World.drew _)
   generalize wc.drew=wz at *
   refine wpAny_take (i:=0) (oi:=?oi1) (v:=.pointer (some ⟨gx,0,none⟩)) ?hi1 (by kernel_rfl) (by kernel_rfl) (by kernel_rfl) ?hQ1 ?hy1 ?rest1
   case hi1=>simp only [zge]; rfl
   case hQ1=>exact fun _ _ _ h=>h
   case hy1=>exact Or.inl ⟨by rfl,by intro w; go_simp⟩
   try simp only [zpt]
   refine wpAny_take (i:=1) (oi:=?oi2) (v:=.int .u8 za) ?hi2 (by kernel_rfl) (by kernel_rfl) (by kernel_rfl) ?hQ2 ?hy2 ?rest2
   case hi2=>simp only [zge]; rfl
   case hQ2=>exact fun _ _ _ h=>h
   case hy2=>exact Or.inl ⟨by rfl,by intro w; go_simp⟩
   try simp only [zpt]
   refine wpAny_take (i:=5) (oi:=?oi3) (v:=.pointer (some ⟨gy,0,none⟩)) ?hi3 (by kernel_rfl) (by kernel_rfl) (by kernel_rfl) ?hQ3 ?hy3 ?rest3
   case hi3=>simp only [zge]; rfl
   case hQ3=>exact fun _ _ _ h=>h
   case hy3=>exact Or.inl ⟨by rfl,by intro w; go_simp⟩
   try simp only [zpt]
   refine wpAny_take (i:=6) (oi:=?oi4) (v:=.int .u8 za) ?hi4 (by kernel_rfl) (by kernel_rfl) (by kernel_rfl) ?hQ4 ?hy4 ?rest4
   case hi4=>simp only [zge]; rfl
   case hQ4=>exact fun _ _ _ h=>h
   case hy4=>exact Or.inl ⟨by rfl,by intro w; go_simp⟩
   try simp only [zpt]
   refine wpAny_take (i:=10) (oi:=?oi5) (v:=.pointer (some ⟨q15,72,none⟩)) ?hi5 (by kernel_rfl) (by kernel_rfl) (by kernel_rfl) ?hQ5 ?hy5 ?rest5
   case hi5=>simp only [zge]; rfl
   case hQ5=>exact fun _ _ _ h=>h
   case hy5=>exact Or.inl ⟨by rfl,by intro w; go_simp⟩
   try simp only [zpt]
   refine phaseL (fun i=>if i=4 then [2,3] else if i=9 then [8,4] else if i=12 then [7,9,11] else []) (fun d a w'=>∃ x107 x108 x109 x112 x113 x114 x116 x117:Value,a={ tmps:=#[.bool ideal,.agg AC.toArray,.int .u8 za,.int .i64 which,.int .u8 zx,undef,.pointer (some ⟨q6,0,none⟩),undef,undef,undef,.bool false,.bool true,.int .i64 (modeOf ideal),.pointer (some ⟨gx,0,none⟩),.pointer (some ⟨gy,0,none⟩),.pointer (some ⟨q15,0,none⟩),.pointer (some ⟨q16,0,none⟩),u17,u18,u19,u20,u21,u22,u23,u24,u25,u26,u27,u28,u29,u30,u31,u32,u33,u34,u35,u36,u37,u38,u39,u40,u41,u42,u43,u44,u45,u46,u47,u48,u49,u50,u51,u52,u53,u54,u55,u56,u57,u58,u59,u60,u61,u62,u63,u64,u65,u66,u67,u68,u69,u70,u71,u72,u73,u74,u75,u76,u77,u78,u79,u80,u81,u82,u83,u84,u85,u86,u87,u88,u89,u90,u91,u92,u93,u94,u95,u96,u97,u98,u99,u100,u101,u102,u103,u104,.pointer (some ⟨gx,0,none⟩),.int .u8 za,x107,x108,x109,.pointer (some ⟨gy,0,none⟩),.int .u8 za,x112,x113,x114,.pointer (some ⟨q15,72,none⟩),x116,x117,u118],defers:=[] }/\Hid (Below wz.heap.size wz w')/\(d 2=true->x107 = .agg KA.toArray)/\(d 3=true->x108 = .agg UC.toArray)/\(d 4=true->x109 = .bool okb)/\(d 7=true->x112 = .agg KA.toArray)/\(d 8=true->x113 = .agg UC.toArray)/\(d 9=true->Hid (Nw w' 0 x114 bu))/\(d 11=true->x116 = .agg UT.toArray)/\(d 12=true->x117 = .bool okb)) [2,3,4,7,8,9,11,12] ?step6 2 8 [2,3,4,7,8,9,11,12] _ _ _ rfl (by decide) (fun _ h=>h) (Fits.of (by kernel_rfl)) ?init6 ?fin6
   case init6=>refine ⟨_,_,_,_,_,_,_,_,rfl,Below.refl _ _,?_,?_,?_,?_,?_,?_,?_,?_⟩ <;> (intro h; exact absurd h (by decide))
   case step6 =>
    intro i hi d a v6 hI hdi hdeps
    obtain ⟨x107,x108,x109,x112,x113,x114,x116,x117,rfl,BW,h2,h3,h4,h7,h8,h9,h11,h12⟩:=hI
    have hsw:=BW.out.size
    simp only [List.mem_cons,List.not_mem_nil,or_false] at hi
    rcases hi with rfl | rfl | rfl | rfl | rfl | rfl | rfl | rfl
    ·refine wpOp_step (o:=?os7) ?hos7 (fun K hK=>?_)
     case hos7=>simp only [zge]; rfl
     refine step_build rfl 27 #[(0,.tmp 106)] rfl KA (by simp only [List.map_toArray,List.map_cons,List.map_nil]; exact BK.out) (hK _ _ ?_)
     clear hK K
     try simp only [zpt]
     exact ⟨_,_,_,_,_,_,_,_,rfl,BW,fun _=>rfl,fun a=>by first | exact h3 (by simpa using a) | rfl,fun a=>by first | exact h4 (by simpa using a) | rfl,fun a=>by first | exact h7 (by simpa using a) | rfl,fun a=>by first | exact h8 (by simpa using a) | rfl,fun a=>h9 (by simpa using a),fun a=>by first | exact h11 (by simpa using a) | rfl,fun a=>by first | exact h12 (by simpa using a) | rfl⟩
    ·refine wpOp_step (o:=?os8) ?hos8 (fun K hK=>?_)
     case hos8=>simp only [zge]; rfl
     refine step_loadW rfl 30 (.tmp 15) rfl q15 0 rfl UC _ Tryd.underlying30 rfl IU.out (BU.out.below BW.out BU.out.lt).cells (hK _ _ ?_)
     clear hK K
     try simp only [zpt]
     exact ⟨_,_,_,_,_,_,_,_,rfl,BW,fun a=>by first | exact h2 (by simpa using a) | rfl,fun _=>rfl,fun a=>by first | exact h4 (by simpa using a) | rfl,fun a=>by first | exact h7 (by simpa using a) | rfl,fun a=>by first | exact h8 (by simpa using a) | rfl,fun a=>h9 (by simpa using a),fun a=>by first | exact h11 (by simpa using a) | rfl,fun a=>by first | exact h12 (by simpa using a) | rfl⟩
    ·obtain rfl:=h2 (hdeps 2 (by simp))
     obtain rfl:=h3 (hdeps 3 (by simp))
     refine wpOp_step (o:=?os9) ?hos9 (fun K hK=>?_)
     case hos9=>simp only [zge]; rfl
     go_simp
     refine (CIP.out v6 (HG.out.below (W.out.trans (BW.out.mono W.out.size)) hsz) (HMK.out.j2 JF2.out BW.out.size (fun b hb=>BW.out.block b (HMK.out.low2 JF2.out b hb)))).mono ?_
     rintro e u6 ⟨rfl,hX⟩
     refine hK _ _ ?_
     clear hK K
     try simp only [zpt]
     exact ⟨_,_,_,_,_,_,_,_,rfl,BW.out.trans (hX.mono hsw),fun a=>by first | exact h2 (by simpa using a) | rfl,fun a=>by first | exact h3 (by simpa using a) | rfl,fun _=>rfl,fun a=>by first | exact h7 (by simpa using a) | rfl,fun a=>by first | exact h8 (by simpa using a) | rfl,fun a=>(h9 (by simpa using a)).out.below hX,fun a=>by first | exact h11 (by simpa using a) | rfl,fun a=>by first | exact h12 (by simpa using a) | rfl⟩
    ·refine wpOp_step (o:=?os10) ?hos10 (fun K hK=>?_)
     case hos10=>simp only [zge]; rfl
     refine step_build rfl 27 #[(0,.tmp 111)] rfl KA (by simp only [List.map_toArray,List.map_cons,List.map_nil]; exact BK.out) (hK _ _ ?_)
     clear hK K
     try simp only [zpt]
     exact ⟨_,_,_,_,_,_,_,_,rfl,BW,fun a=>by first | exact h2 (by simpa using a) | rfl,fun a=>by first | exact h3 (by simpa using a) | rfl,fun a=>by first | exact h4 (by simpa using a) | rfl,fun _=>rfl,fun a=>by first | exact h8 (by simpa using a) | rfl,fun a=>h9 (by simpa using a),fun a=>by first | exact h11 (by simpa using a) | rfl,fun a=>by first | exact h12 (by simpa using a) | rfl⟩
    ·refine wpOp_step (o:=?os11) ?hos11 (fun K hK=>?_)
     case hos11=>simp only [zge]; rfl
     refine step_loadW rfl 30 (.tmp 15) rfl q15 0 rfl UC _ Tryd.underlying30 rfl IU.out (BU.out.below BW.out BU.out.lt).cells (hK _ _ ?_)
     clear hK K
     try simp only [zpt]
     exact ⟨_,_,_,_,_,_,_,_,rfl,BW,fun a=>by first | exact h2 (by simpa using a) | rfl,fun a=>by first | exact h3 (by simpa using a) | rfl,fun a=>by first | exact h4 (by simpa using a) | rfl,fun a=>by first | exact h7 (by simpa using a) | rfl,fun _=>rfl,fun a=>h9 (by simpa using a),fun a=>by first | exact h11 (by simpa using a) | rfl,fun a=>by first | exact h12 (by simpa using a) | rfl⟩
    ·obtain rfl:=h8 (hdeps 8 (by simp))
     refine wpOp_step (o:=?os12) ?hos12 (fun K hK=>?_)
     case hos12=>simp only [zge]; rfl
     go_simp
     refine (CBU.out v6).mono ?_
     rintro e u6 ⟨x,rfl,hO,hX⟩
     refine hK _ _ ?_
     clear hK K
     try simp only [zpt]
     exact ⟨_,_,_,_,_,_,_,_,rfl,BW.out.trans (hX.mono hsw),fun a=>by first | exact h2 (by simpa using a) | rfl,fun a=>by first | exact h3 (by simpa using a) | rfl,fun a=>by first | exact h4 (by simpa using a) | rfl,fun a=>by first | exact h7 (by simpa using a) | rfl,fun a=>by first | exact h8 (by simpa using a) | rfl,fun _=>hO.nw (Nat.zero_le _),fun a=>by first | exact h11 (by simpa using a) | rfl,fun a=>by first | exact h12 (by simpa using a) | rfl⟩
    ·refine wpOp_step (o:=?os13) ?hos13 (fun K hK=>?_)
     case hos13=>simp only [zge]; rfl
     refine step_loadW rfl 27 (.tmp 115) rfl q15 72 rfl UT _ Tryd.underlying27 rfl IH.out ((BU.out.below BW.out BU.out.lt).at_ LU.out) (hK _ _ ?_)
     clear hK K
     try simp only [zpt]
     exact ⟨_,_,_,_,_,_,_,_,rfl,BW,fun a=>by first | exact h2 (by simpa using a) | rfl,fun a=>by first | exact h3 (by simpa using a) | rfl,fun a=>by first | exact h4 (by simpa using a) | rfl,fun a=>by first | exact h7 (by simpa using a) | rfl,fun a=>by first | exact h8 (by simpa using a) | rfl,fun a=>h9 (by simpa using a),fun _=>rfl,fun a=>by first | exact h12 (by simpa using a) | rfl⟩
    ·obtain rfl:=h7 (hdeps 7 (by simp))
     obtain ⟨A1,c1,rfl,hR,_⟩:=(h9 (hdeps 9 (by simp))).out
     obtain rfl:=h11 (hdeps 11 (by simp))
     refine wpOp_step (o:=?os14) ?hos14 (fun K hK=>?_)
     case hos14=>simp only [zge]; rfl
     go_simp
     refine (CIQ.out v6 _ _ _ (HMK.out.j2 JF2.out BW.out.size (fun b hb=>BW.out.block b (HMK.out.low2 JF2.out b hb))) hR).mono ?_
     rintro e u6 ⟨rfl,hX⟩
     refine hK _ _ ?_
     clear hK K
     try simp only [zpt]
     exact ⟨_,_,_,_,_,_,_,_,rfl,BW.out.trans (hX.mono hsw),fun a=>by first | exact h2 (by simpa using a) | rfl,fun a=>by first | exact h3 (by simpa using a) | rfl,fun a=>by first | exact h4 (by simpa using a) | rfl,fun a=>by first | exact h7 (by simpa using a) | rfl,fun a=>by first | exact h8 (by simpa using a) | rfl,fun a=>(h9 (by simpa using a)).out.below hX,fun a=>by first | exact h11 (by simpa using a) | rfl,fun _=>rfl⟩
   case fin6 =>
    intro a v6 hI
    obtain ⟨x107,x108,x109,x112,x113,x114,x116,x117,rfl,BW,h2,h3,h4,h7,h8,h9,h11,h12⟩:=hI
    obtain rfl:=h2 (by decide)
    obtain rfl:=h3 (by decide)
    obtain rfl:=h4 (by decide)
    obtain rfl:=h7 (by decide)
    obtain rfl:=h8 (by decide)
    obtain rfl:=h11 (by decide)
    obtain rfl:=h12 (by decide)
    have hX:=BW.out
    replace W:=Lib.hid (W.out.trans (hX.mono W.out.size))
    clear hX BW h2 h3 h4 h7 h8 h9 h11 h12 CIP CIQ CBU
    have eB:(okb == okb)=true:=by simp
    try dsimp only
    refine wpAny_take (i:=13) (oi:=?oi15) (v:=.bool true) ?hi15 (by kernel_rfl) (by kernel_rfl) (by kernel_rfl) ?hQ15 ?hy15 ?rest15
    case hi15=>simp only [zge]; rfl
    case hQ15=>exact fun _ _ _ h=>h
    case hy15=>exact Or.inl ⟨by rfl,by intro w; go_simp⟩
    try simp only [zpt]
    refine wpAny_take (i:=14) (oi:=?oi16) (v:=.bool true) ?hi16 (by kernel_rfl) (by kernel_rfl) (by kernel_rfl) ?hQ16 ?hy16 ?rest16
    case hi16=>simp only [zge]; rfl
    case hQ16=>exact fun _ _ _ h=>h
    case hy16=>exact Or.inl ⟨by rfl,by intro w; go_simp⟩
    try simp only [zpt]
    clear eB
    refine wpAny_done (by kernel_rfl) ?_ _
    go_wp2_with fail
    go_ret
    exact ⟨rfl,W.out⟩
end Go.Proofs.YtajgjeialbgijaaDoor.versMark
