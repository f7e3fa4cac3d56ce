import Derived.Test.YtajgjeialbgijaaDoorSGsha1
import Derived.Test.YtajgjeialbgijaaDoorSGsha2
import Derived.Test.YtajgjeialbgijaaDoorSGsha3
namespace Go.Proofs.YtajgjeialbgijaaDoor.Pol
set_option linter.unusedVariables false
set_option linter.unusedSimpArgs false
set_option maxRecDepth 100000
def p:Int:=1361129467683753853853498429727072845819
def le:List UInt8->Int
 | []=>0
 | b :: l=>(b.toNat:Int) + 256 * le l
def bytesN:Nat->Int->List UInt8
 | 0,_=>[]
 | n + 1,x=>Sha.by8 x :: bytesN n (x / 256)
def cl (i:Nat) (b:UInt8):UInt8:=if i % 4=3 then Sha.by8 ((b.toNat:Int) % 16) else if i % 4=0/\0 < i then Sha.by8 ((b.toNat:Int) - (b.toNat:Int) % 4) else b
def clampTo (k:Nat) (l:List UInt8):List UInt8:=(List.range l.length).map fun i=>if i < k then cl i (l.getD i 0) else l.getD i 0
def clamp (l:List UInt8):List UInt8:=clampTo 16 l
def piece (b:List UInt8) (k:Nat):Int:=le ((b.drop (16 * k)).take 16 ++ [1])
def steps (r:Int) (b:List UInt8):Nat->Int
 | 0=>0
 | k + 1=>((steps r b k + piece b k) * r) % p
def count (n:Nat):Nat:=(n + 15) / 16
def tag (key b:List UInt8):List UInt8:=bytesN 16 (steps (le (clamp (key.take 16))) b (count b.length) + le (key.drop 16))
theorem by8_toNat (x:Int):((Sha.by8 x).toNat:Int)=x % 256:=by
 unfold Sha.by8
 have h:0<=x % 256/\x % 256 < 256:=by omega
 rw [UInt8.toNat_ofNat']
 omega
theorem by8_mod (x:Int):Sha.by8 (x % 256)=Sha.by8 x:=by unfold Sha.by8; rw [Int.emod_emod]
theorem le_bound:∀ l:List UInt8,0<=le l/\le l < 256 ^ l.length
 | []=>by simp [le]
 | b :: l=>by
  have ih:=le_bound l
  have hb:=b.toNat_lt
  simp only [le,List.length_cons,Int.pow_succ]
  omega
theorem le_append:∀ l m:List UInt8,le (l ++ m)=le l + 256 ^ l.length * le m
 | [],m=>by simp [le]
 | b :: l,m=>by
  simp only [List.cons_append,le,le_append l m,List.length_cons,Int.pow_succ]
  grind
theorem bytesN_length:∀ (n:Nat) (x:Int),(bytesN n x).length=n
 | 0,_=>rfl
 | n + 1,x=>by simp [bytesN,bytesN_length n]
theorem bytesN_mod:∀ (n:Nat) (x:Int),bytesN n (x % 256 ^ n)=bytesN n x
 | 0,_=>rfl
 | n + 1,x=>by
  simp only [bytesN]
  have h1:Sha.by8 (x % 256 ^ (n + 1))=Sha.by8 x:=by
   rw [<- by8_mod,Int.pow_succ,<- by8_mod x]
   congr 1
   exact Int.emod_emod_of_dvd x ⟨256 ^ n,by rw [Int.mul_comm]⟩
  have h2:x % 256 ^ (n + 1) / 256=x / 256 % 256 ^ n:=by
   rw [Int.pow_succ,Int.mul_comm,Int.emod_def,Int.emod_def,<- Int.ediv_ediv_of_nonneg (show (0:Int)<=256 by omega)]
   rw [show x - 256 * 256 ^ n * (x / 256 / 256 ^ n)=x + 256 * (-(256 ^ n * (x / 256 / 256 ^ n))) by grind,Int.add_mul_ediv_left _ _ (by omega)]
   omega
  rw [h1,h2,bytesN_mod n]
theorem le_zeros:∀ n:Nat,le (List.replicate n 0)=0
 | 0=>rfl
 | n + 1=>by simp [List.replicate_succ,le,le_zeros n]
theorem steps_bound (r:Int) (b:List UInt8) (k:Nat):0<=steps r b k/\steps r b k < p:=by
 cases k with
 | zero=>simp [steps,p]
 | succ k=>exact ⟨Int.emod_nonneg _ (by simp [p]),Int.emod_lt_of_pos _ (by simp [p])⟩
def u (z:Int):Int:=IntKind.u64.wrap z
theorem u_eq (z:Int):u z=z % 18446744073709551616:=by simp [u,IntKind.wrap,IntKind.bits,IntKind.signed]
theorem u_in {z:Int} (h0:0<=z) (h1:z < 18446744073709551616):u z=z:=by rw [u_eq]; omega
def val:List Int->Int
 | []=>0
 | x :: l=>x + 67108864 * val l
def plusTo (a b:List Int):Nat->List Int
 | 0=>a
 | k + 1=>(plusTo a b k).set k (u ((plusTo a b k).getD k 0 + b.getD k 0))
def tset (n:List Int) (i k:Nat) (x y:Int):List Int :=
 if i + k < 5 then n.set (i + k) (u (n.getD (i + k) 0 + u (x * y))) else n.set (i + k - 5) (u (n.getD (i + k - 5) 0 + u (u (5 * x) * y)))
def trow (a b n:List Int) (i:Nat):Nat->List Int
 | 0=>n
 | k + 1=>tset (trow a b n i k) i k (a.getD i 0) (b.getD k 0)
def tall (a b:List Int):Nat->List Int
 | 0=>[0,0,0,0,0]
 | i + 1=>trow a b (tall a b i) i 5
def carryTo (n:List Int):Nat->List Int × Int
 | 0=>(n,0)
 | k + 1 =>
  let q:=carryTo n k
  let x:=u (q.1.getD k 0 + q.2)
  (q.1.set k (x % 67108864),x / 67108864)
def round (n:List Int):List Int :=
 let q:=carryTo n 5
 q.1.set 0 (u (q.1.getD 0 0 + u (5 * q.2)))
def settled (n:List Int):List Int:=round (round n)
def overTo (n:List Int):Nat->Int
 | 0=>5
 | k + 1=>u (overTo n k + n.getD k 0) / 67108864
def reduced (n:List Int):List Int:=n.set 0 (u (n.getD 0 0 + u (5 * overTo n 5)))
theorem five_of {l:List Int} (h:l.length=5):∃ a b c d e,l=[a,b,c,d,e]:=by
 match l,h with
 | [a,b,c,d,e],_=>exact ⟨a,b,c,d,e,rfl⟩
def In (m:Int) (l:List Int):Prop:=∀ x ∈ l,0<=x/\x < m
structure Set5 (l:List Int):Prop where
 len:l.length=5
 lo:0<=l.getD 0 0/\l.getD 0 0 < 67108869
 d1:0<=l.getD 1 0/\l.getD 1 0 < 67108864
 d2:0<=l.getD 2 0/\l.getD 2 0 < 67108864
 d3:0<=l.getD 3 0/\l.getD 3 0 < 67108864
 d4:0<=l.getD 4 0/\l.getD 4 0 < 67108864
theorem plus_val (a b:List Int) (ha:a.length=5) (hb:b.length=5) (ba:In 9223372036854775808 a) (bb:In 9223372036854775808 b) :
  (plusTo a b 5).length=5/\val (plusTo a b 5)=val a + val b/\plusTo a b 5=List.zipWith (· + ·) a b:=by
 obtain ⟨a0,a1,a2,a3,a4,rfl⟩:=five_of ha
 obtain ⟨b0,b1,b2,b3,b4,rfl⟩:=five_of hb
 simp only [In,List.mem_cons,List.not_mem_nil,or_false,forall_eq_or_imp,forall_eq] at ba bb
 simp only [plusTo,List.getD_cons_zero,List.getD_cons_succ,List.set_cons_zero,List.set_cons_succ]
 rw [u_in (z:=a0 + b0) (by omega) (by omega),u_in (z:=a1 + b1) (by omega) (by omega),u_in (z:=a2 + b2) (by omega) (by omega),u_in (z:=a3 + b3) (by omega) (by omega),u_in (z:=a4 + b4) (by omega) (by omega)]
 simp only [val,List.length_cons,List.length_nil,List.zipWith_cons_cons,List.zipWith_nil_left]
 refine ⟨trivial,by omega,trivial⟩
theorem mul_bd {x y:Int} (h:0<=x/\x < 268435456) (g:0<=y/\y < 67108864):0<=x * y/\x * y < 18014398509481984:=by
 refine ⟨Int.mul_nonneg h.1 g.1,?_⟩
 calc x * y<=268435455 * y:=Int.mul_le_mul_of_nonneg_right (by omega) g.1
  _ < 18014398509481984:=by omega
theorem tset_lt (n:List Int) (i k:Nat) (x y:Int) (h:i + k < 5):tset n i k x y=n.set (i + k) (u (n.getD (i + k) 0 + u (x * y))):=by rw [tset,if_pos h]
theorem tset_ge (n:List Int) (i k:Nat) (x y:Int) (h:¬ i + k < 5):tset n i k x y=n.set (i + k - 5) (u (n.getD (i + k - 5) 0 + u (u (5 * x) * y))):=by rw [tset,if_neg h]
theorem chain {t1 t2 t3 t4 t5:Int} (h1:0<=t1/\t1 < 90071992547409920) (h2:0<=t2/\t2 < 90071992547409920) (h3:0<=t3/\t3 < 90071992547409920) (h4:0<=t4/\t4 < 90071992547409920) (h5:0<=t5/\t5 < 90071992547409920) :
  u (u (u (u (u (0 + t1) + t2) + t3) + t4) + t5)=t1 + t2 + t3 + t4 + t5:=by
 simp only [u_eq]
 omega
def prod (a b:List Int):List Int :=
 let A:=fun i=>a.getD i 0
 let B:=fun i=>b.getD i 0
 [A 0 * B 0 + 5 * A 1 * B 4 + 5 * A 2 * B 3 + 5 * A 3 * B 2 + 5 * A 4 * B 1,
  A 0 * B 1 + A 1 * B 0 + 5 * A 2 * B 4 + 5 * A 3 * B 3 + 5 * A 4 * B 2,
  A 0 * B 2 + A 1 * B 1 + A 2 * B 0 + 5 * A 3 * B 4 + 5 * A 4 * B 3,
  A 0 * B 3 + A 1 * B 2 + A 2 * B 1 + A 3 * B 0 + 5 * A 4 * B 4,
  A 0 * B 4 + A 1 * B 3 + A 2 * B 2 + A 3 * B 1 + A 4 * B 0]
theorem tall_prod (a b:List Int) (ha:a.length=5) (hb:b.length=5) (ba:In 268435456 a) (bb:In 67108864 b):tall a b 5=prod a b:=by
 obtain ⟨a0,a1,a2,a3,a4,rfl⟩:=five_of ha
 obtain ⟨b0,b1,b2,b3,b4,rfl⟩:=five_of hb
 simp only [In,List.mem_cons,List.not_mem_nil,or_false,forall_eq_or_imp,forall_eq] at ba bb
 obtain ⟨A0,A1,A2,A3,A4⟩:=ba
 obtain ⟨B0,B1,B2,B3,B4⟩:=bb
 have m00:=mul_bd A0 B0
 have m01:=mul_bd A0 B1
 have m02:=mul_bd A0 B2
 have m03:=mul_bd A0 B3
 have m04:=mul_bd A0 B4
 have m10:=mul_bd A1 B0
 have m11:=mul_bd A1 B1
 have m12:=mul_bd A1 B2
 have m13:=mul_bd A1 B3
 have m14:=mul_bd A1 B4
 have m20:=mul_bd A2 B0
 have m21:=mul_bd A2 B1
 have m22:=mul_bd A2 B2
 have m23:=mul_bd A2 B3
 have m24:=mul_bd A2 B4
 have m30:=mul_bd A3 B0
 have m31:=mul_bd A3 B1
 have m32:=mul_bd A3 B2
 have m33:=mul_bd A3 B3
 have m34:=mul_bd A3 B4
 have m40:=mul_bd A4 B0
 have m41:=mul_bd A4 B1
 have m42:=mul_bd A4 B2
 have m43:=mul_bd A4 B3
 have m44:=mul_bd A4 B4
 simp only [tall,trow,tset_lt,tset_ge,Nat.reduceAdd,Nat.reduceLT,Nat.reduceSub,not_false_eq_true,List.getD_cons_zero,List.getD_cons_succ,List.set_cons_zero,List.set_cons_succ,Nat.zero_add,Nat.add_zero,prod]
 have f1:u (5 * a1)=5 * a1:=u_in (by omega) (by omega)
 have f2:u (5 * a2)=5 * a2:=u_in (by omega) (by omega)
 have f3:u (5 * a3)=5 * a3:=u_in (by omega) (by omega)
 have f4:u (5 * a4)=5 * a4:=u_in (by omega) (by omega)
 have e00:u (a0 * b0)=a0 * b0:=u_in (by omega) (by omega)
 have e01:u (a0 * b1)=a0 * b1:=u_in (by omega) (by omega)
 have e02:u (a0 * b2)=a0 * b2:=u_in (by omega) (by omega)
 have e03:u (a0 * b3)=a0 * b3:=u_in (by omega) (by omega)
 have e04:u (a0 * b4)=a0 * b4:=u_in (by omega) (by omega)
 have e10:u (a1 * b0)=a1 * b0:=u_in (by omega) (by omega)
 have e11:u (a1 * b1)=a1 * b1:=u_in (by omega) (by omega)
 have e12:u (a1 * b2)=a1 * b2:=u_in (by omega) (by omega)
 have e13:u (a1 * b3)=a1 * b3:=u_in (by omega) (by omega)
 have e14:u (5 * a1 * b4)=5 * a1 * b4:=by rw [Int.mul_assoc]; exact u_in (by omega) (by omega)
 have n14:0<=5 * a1 * b4/\5 * a1 * b4 < 90071992547409920:=by rw [Int.mul_assoc]; omega
 have e20:u (a2 * b0)=a2 * b0:=u_in (by omega) (by omega)
 have e21:u (a2 * b1)=a2 * b1:=u_in (by omega) (by omega)
 have e22:u (a2 * b2)=a2 * b2:=u_in (by omega) (by omega)
 have e23:u (5 * a2 * b3)=5 * a2 * b3:=by rw [Int.mul_assoc]; exact u_in (by omega) (by omega)
 have n23:0<=5 * a2 * b3/\5 * a2 * b3 < 90071992547409920:=by rw [Int.mul_assoc]; omega
 have e24:u (5 * a2 * b4)=5 * a2 * b4:=by rw [Int.mul_assoc]; exact u_in (by omega) (by omega)
 have n24:0<=5 * a2 * b4/\5 * a2 * b4 < 90071992547409920:=by rw [Int.mul_assoc]; omega
 have e30:u (a3 * b0)=a3 * b0:=u_in (by omega) (by omega)
 have e31:u (a3 * b1)=a3 * b1:=u_in (by omega) (by omega)
 have e32:u (5 * a3 * b2)=5 * a3 * b2:=by rw [Int.mul_assoc]; exact u_in (by omega) (by omega)
 have n32:0<=5 * a3 * b2/\5 * a3 * b2 < 90071992547409920:=by rw [Int.mul_assoc]; omega
 have e33:u (5 * a3 * b3)=5 * a3 * b3:=by rw [Int.mul_assoc]; exact u_in (by omega) (by omega)
 have n33:0<=5 * a3 * b3/\5 * a3 * b3 < 90071992547409920:=by rw [Int.mul_assoc]; omega
 have e34:u (5 * a3 * b4)=5 * a3 * b4:=by rw [Int.mul_assoc]; exact u_in (by omega) (by omega)
 have n34:0<=5 * a3 * b4/\5 * a3 * b4 < 90071992547409920:=by rw [Int.mul_assoc]; omega
 have e40:u (a4 * b0)=a4 * b0:=u_in (by omega) (by omega)
 have e41:u (5 * a4 * b1)=5 * a4 * b1:=by rw [Int.mul_assoc]; exact u_in (by omega) (by omega)
 have n41:0<=5 * a4 * b1/\5 * a4 * b1 < 90071992547409920:=by rw [Int.mul_assoc]; omega
 have e42:u (5 * a4 * b2)=5 * a4 * b2:=by rw [Int.mul_assoc]; exact u_in (by omega) (by omega)
 have n42:0<=5 * a4 * b2/\5 * a4 * b2 < 90071992547409920:=by rw [Int.mul_assoc]; omega
 have e43:u (5 * a4 * b3)=5 * a4 * b3:=by rw [Int.mul_assoc]; exact u_in (by omega) (by omega)
 have n43:0<=5 * a4 * b3/\5 * a4 * b3 < 90071992547409920:=by rw [Int.mul_assoc]; omega
 have e44:u (5 * a4 * b4)=5 * a4 * b4:=by rw [Int.mul_assoc]; exact u_in (by omega) (by omega)
 have n44:0<=5 * a4 * b4/\5 * a4 * b4 < 90071992547409920:=by rw [Int.mul_assoc]; omega
 simp only [f1,f2,f3,f4,e00,e01,e02,e03,e04,e10,e11,e12,e13,e14,e20,e21,e22,e23,e24,e30,e31,e32,e33,e34,e40,e41,e42,e43,e44]
 rw [chain (by omega) n14 n23 n32 n41]
 rw [chain (by omega) (by omega) n24 n33 n42]
 rw [chain (by omega) (by omega) (by omega) n34 n43]
 rw [chain (by omega) (by omega) (by omega) (by omega) n44]
 rw [chain (by omega) (by omega) (by omega) (by omega) (by omega)]
theorem prod_val (a b:List Int) (ha:a.length=5) (hb:b.length=5):(val (prod a b)) % p=(val a * val b) % p:=by
 obtain ⟨a0,a1,a2,a3,a4,rfl⟩:=five_of ha
 obtain ⟨b0,b1,b2,b3,b4,rfl⟩:=five_of hb
 simp only [prod,val,List.getD_cons_zero,List.getD_cons_succ,p]
 have e:(a0 + 67108864 * (a1 + 67108864 * (a2 + 67108864 * (a3 + 67108864 * (a4 + 67108864 * 0))))) * (b0 + 67108864 * (b1 + 67108864 * (b2 + 67108864 * (b3 + 67108864 * (b4 + 67108864 * 0))))) =
  (a0 * b0 + 5 * a1 * b4 + 5 * a2 * b3 + 5 * a3 * b2 + 5 * a4 * b1 + 67108864 * (a0 * b1 + a1 * b0 + 5 * a2 * b4 + 5 * a3 * b3 + 5 * a4 * b2 + 67108864 * (a0 * b2 + a1 * b1 + a2 * b0 + 5 * a3 * b4 + 5 * a4 * b3 + 67108864 * (a0 * b3 + a1 * b2 + a2 * b1 + a3 * b0 + 5 * a4 * b4 + 67108864 * (a0 * b4 + a1 * b3 + a2 * b2 + a3 * b1 + a4 * b0 + 67108864 * 0)))))
  + 1361129467683753853853498429727072845819 * (a1*b4+a2*b3+a3*b2+a4*b1 + 67108864*(a2*b4+a3*b3+a4*b2 + 67108864*(a3*b4+a4*b3+67108864*(a4*b4)))):=by grind
 rw [e,Int.add_mul_emod_self_left]
theorem prod_bd (a b:List Int) (ha:a.length=5) (hb:b.length=5) (ba:In 268435456 a) (bb:In 67108864 b):(prod a b).length=5/\In 450359962737049600 (prod a b):=by
 obtain ⟨a0,a1,a2,a3,a4,rfl⟩:=five_of ha
 obtain ⟨b0,b1,b2,b3,b4,rfl⟩:=five_of hb
 simp only [In,List.mem_cons,List.not_mem_nil,or_false,forall_eq_or_imp,forall_eq] at ba bb
 obtain ⟨A0,A1,A2,A3,A4⟩:=ba
 obtain ⟨B0,B1,B2,B3,B4⟩:=bb
 have m00:=mul_bd A0 B0
 have m01:=mul_bd A0 B1
 have m02:=mul_bd A0 B2
 have m03:=mul_bd A0 B3
 have m04:=mul_bd A0 B4
 have m10:=mul_bd A1 B0
 have m11:=mul_bd A1 B1
 have m12:=mul_bd A1 B2
 have m13:=mul_bd A1 B3
 have m14:=mul_bd A1 B4
 have m20:=mul_bd A2 B0
 have m21:=mul_bd A2 B1
 have m22:=mul_bd A2 B2
 have m23:=mul_bd A2 B3
 have m24:=mul_bd A2 B4
 have m30:=mul_bd A3 B0
 have m31:=mul_bd A3 B1
 have m32:=mul_bd A3 B2
 have m33:=mul_bd A3 B3
 have m34:=mul_bd A3 B4
 have m40:=mul_bd A4 B0
 have m41:=mul_bd A4 B1
 have m42:=mul_bd A4 B2
 have m43:=mul_bd A4 B3
 have m44:=mul_bd A4 B4
 refine ⟨rfl,?_⟩
 simp only [In,prod,List.mem_cons,List.not_mem_nil,or_false,forall_eq_or_imp,forall_eq,List.getD_cons_zero,List.getD_cons_succ,Int.mul_assoc]
 omega
theorem round_of (n0 n1 n2 n3 n4 x1 x2 x3 x4:Int) (h0:0<=n0/\n0 < 1000000000000000000) (h1:0<=n1/\n1 < 1000000000000000000) (h2:0<=n2/\n2 < 1000000000000000000) (h3:0<=n3/\n3 < 1000000000000000000) (h4:0<=n4/\n4 < 1000000000000000000)
  (e1:x1=n1 + n0 / 67108864) (e2:x2=n2 + x1 / 67108864) (e3:x3=n3 + x2 / 67108864) (e4:x4=n4 + x3 / 67108864) :
  round [n0,n1,n2,n3,n4]=[n0 % 67108864 + 5 * (x4 / 67108864),x1 % 67108864,x2 % 67108864,x3 % 67108864,x4 % 67108864]:=by
 simp only [round,carryTo,List.getD_cons_zero,List.getD_cons_succ,List.set_cons_zero,List.set_cons_succ]
 rw [u_in (z:=n0 + 0) (by omega) (by omega),show n0 + 0=n0 by omega,u_in (z:=n1 + n0 / 67108864) (by omega) (by omega),<- e1,u_in (z:=n2 + x1 / 67108864) (by omega) (by omega),<- e2,
  u_in (z:=n3 + x2 / 67108864) (by omega) (by omega),<- e3,u_in (z:=n4 + x3 / 67108864) (by omega) (by omega),<- e4,u_in (z:=5 * (x4 / 67108864)) (by omega) (by omega),u_in (z:=n0 % 67108864 + 5 * (x4 / 67108864)) (by omega) (by omega)]
theorem emod_of {a b k:Int} (h:a=b + p * k):a % p=b % p:=by rw [h,Int.add_mul_emod_self_left]
theorem settled_of (n:List Int) (hl:n.length=5) (hb:In 450359962737049600 n):Set5 (settled n)/\val (settled n) % p=val n % p:=by
 obtain ⟨n0,n1,n2,n3,n4,rfl⟩:=five_of hl
 simp only [In,List.mem_cons,List.not_mem_nil,or_false,forall_eq_or_imp,forall_eq] at hb
 obtain ⟨x1,e1⟩:∃ x,x=n1 + n0 / 67108864:=⟨_,rfl⟩
 obtain ⟨x2,e2⟩:∃ x,x=n2 + x1 / 67108864:=⟨_,rfl⟩
 obtain ⟨x3,e3⟩:∃ x,x=n3 + x2 / 67108864:=⟨_,rfl⟩
 obtain ⟨x4,e4⟩:∃ x,x=n4 + x3 / 67108864:=⟨_,rfl⟩
 have r1:=round_of n0 n1 n2 n3 n4 x1 x2 x3 x4 (by omega) (by omega) (by omega) (by omega) (by omega) e1 e2 e3 e4
 obtain ⟨m0,f0⟩:∃ x,x=n0 % 67108864 + 5 * (x4 / 67108864):=⟨_,rfl⟩
 obtain ⟨m1,f1⟩:∃ x,x=x1 % 67108864:=⟨_,rfl⟩
 obtain ⟨m2,f2⟩:∃ x,x=x2 % 67108864:=⟨_,rfl⟩
 obtain ⟨m3,f3⟩:∃ x,x=x3 % 67108864:=⟨_,rfl⟩
 obtain ⟨m4,f4⟩:∃ x,x=x4 % 67108864:=⟨_,rfl⟩
 rw [<- f0,<- f1,<- f2,<- f3,<- f4] at r1
 have v1:val [n0,n1,n2,n3,n4]=val [m0,m1,m2,m3,m4] + p * (x4 / 67108864):=by
  simp only [val,p]
  omega
 have b0:0<=m0/\m0 < 68719476736:=by omega
 have b1:0<=m1/\m1 < 67108864:=by omega
 have b2:0<=m2/\m2 < 67108864:=by omega
 have b3:0<=m3/\m3 < 67108864:=by omega
 have b4:0<=m4/\m4 < 67108864:=by omega
 rw [emod_of v1]
 clear e1 e2 e3 e4 f0 f1 f2 f3 f4 hb v1
 obtain ⟨y1,e1⟩:∃ x,x=m1 + m0 / 67108864:=⟨_,rfl⟩
 obtain ⟨y2,e2⟩:∃ x,x=m2 + y1 / 67108864:=⟨_,rfl⟩
 obtain ⟨y3,e3⟩:∃ x,x=m3 + y2 / 67108864:=⟨_,rfl⟩
 obtain ⟨y4,e4⟩:∃ x,x=m4 + y3 / 67108864:=⟨_,rfl⟩
 have r2:=round_of m0 m1 m2 m3 m4 y1 y2 y3 y4 (by omega) (by omega) (by omega) (by omega) (by omega) e1 e2 e3 e4
 rw [settled,r1,r2]
 have v2:val [m0,m1,m2,m3,m4]=val [m0 % 67108864 + 5 * (y4 / 67108864),y1 % 67108864,y2 % 67108864,y3 % 67108864,y4 % 67108864] + p * (y4 / 67108864):=by
  simp only [val,p]
  omega
 refine ⟨⟨rfl,?_,?_,?_,?_,?_⟩,(emod_of v2).symm⟩ <;> simp only [List.getD_cons_zero,List.getD_cons_succ] <;> omega
theorem set5_in {l:List Int} (h:Set5 l):In 67108869 l:=by
 obtain ⟨hl,h0,h1,h2,h3,h4⟩:=h
 obtain ⟨n0,n1,n2,n3,n4,rfl⟩:=five_of hl
 simp only [List.getD_cons_zero,List.getD_cons_succ] at h0 h1 h2 h3 h4
 simp only [In,List.mem_cons,List.not_mem_nil,or_false,forall_eq_or_imp,forall_eq]
 omega
theorem reduced_of (n:List Int) (h:Set5 n):∃ o,(o=0 ∨ o=1)/\(reduced n).length=5/\In 67108875 (reduced n)/\val (reduced n)=val n % p + 1361129467683753853853498429727072845824 * o:=by
 obtain ⟨hl,h0,h1,h2,h3,h4⟩:=h
 obtain ⟨n0,n1,n2,n3,n4,rfl⟩:=five_of hl
 simp only [List.getD_cons_zero,List.getD_cons_succ] at h0 h1 h2 h3 h4
 obtain ⟨o1,e1⟩:∃ x,x=(5 + n0) / 67108864:=⟨_,rfl⟩
 obtain ⟨o2,e2⟩:∃ x,x=(o1 + n1) / 67108864:=⟨_,rfl⟩
 obtain ⟨o3,e3⟩:∃ x,x=(o2 + n2) / 67108864:=⟨_,rfl⟩
 obtain ⟨o4,e4⟩:∃ x,x=(o3 + n3) / 67108864:=⟨_,rfl⟩
 obtain ⟨o5,e5⟩:∃ x,x=(o4 + n4) / 67108864:=⟨_,rfl⟩
 have ho:o5=0 ∨ o5=1:=by omega
 have hr:reduced [n0,n1,n2,n3,n4]=[n0 + 5 * o5,n1,n2,n3,n4]:=by
  simp only [reduced,overTo,List.getD_cons_zero,List.getD_cons_succ,List.set_cons_zero,List.set_cons_succ]
  rw [u_in (z:=5 + n0) (by omega) (by omega),<- e1,u_in (z:=o1 + n1) (by omega) (by omega),<- e2,u_in (z:=o2 + n2) (by omega) (by omega),<- e3,u_in (z:=o3 + n3) (by omega) (by omega),<- e4,u_in (z:=o4 + n4) (by omega) (by omega),<- e5,
   u_in (z:=5 * o5) (by omega) (by omega),u_in (z:=n0 + 5 * o5) (by omega) (by omega)]
 refine ⟨o5,ho,by rw [hr]; rfl,?_,?_⟩
 ·rw [hr]
  simp only [In,List.mem_cons,List.not_mem_nil,or_false,forall_eq_or_imp,forall_eq]
  omega
 ·rw [hr]
  simp only [val,p]
  omega
theorem bytesN_succ:∀ (k:Nat) (x:Int),bytesN (k + 1) x=bytesN k x ++ [Sha.by8 (x / 256 ^ k)]
 | 0,x=>by simp [bytesN]
 | k + 1,x=>by
  rw [bytesN,bytesN_succ k (x / 256)]
  rw [bytesN,List.cons_append]
  congr 4
  rw [Int.ediv_ediv_of_nonneg (show (0:Int)<=256 by omega),Int.pow_succ,Int.mul_comm]
theorem div_next (x:Int) (k:Nat):x / 256 ^ k / 256=x / 256 ^ (k + 1):=by
 rw [Int.ediv_ediv_of_nonneg (Int.pow_nonneg (by omega)),Int.pow_succ]
theorem low_in (l:List Int) (i:Nat) (hl:l.length=5) (hi:i < 5) (hb:In 268435456 l) :
  u (val (l.take i) / 256 ^ (26 * i / 8) + u (l.getD i 0 * 2 ^ (26 * i - 8 * (26 * i / 8))))=val (l.take (i + 1)) / 256 ^ (26 * i / 8):=by
 obtain ⟨n0,n1,n2,n3,n4,rfl⟩:=five_of hl
 simp only [In,List.mem_cons,List.not_mem_nil,or_false,forall_eq_or_imp,forall_eq] at hb
 have hc:i=0 ∨ i=1 ∨ i=2 ∨ i=3 ∨ i=4:=by omega
 rcases hc with rfl | rfl | rfl | rfl | rfl <;>
 ·simp only [List.take_zero,List.take_succ_cons,val,List.getD_cons_zero,List.getD_cons_succ,u_eq,Nat.reduceMul,Nat.reduceDiv,Nat.reduceSub,Nat.reducePow,Int.reducePow]
  omega
theorem low_front (l:List Int) (i:Nat) (hl:l.length=5) (hi:i < 5) (hb:In 268435456 l):bytesN (26 * i / 8) (val (l.take i))=bytesN (26 * i / 8) (val (l.take (i + 1))):=by
 rw [<- bytesN_mod _ (val (l.take i)),<- bytesN_mod _ (val (l.take (i + 1)))]
 congr 1
 obtain ⟨n0,n1,n2,n3,n4,rfl⟩:=five_of hl
 have hc:i=0 ∨ i=1 ∨ i=2 ∨ i=3 ∨ i=4:=by omega
 rcases hc with rfl | rfl | rfl | rfl | rfl <;>
 ·simp only [List.take_zero,List.take_succ_cons,val,Nat.reduceMul,Nat.reduceDiv,Int.reducePow]
  omega
def five (l:List UInt8) (i:Nat):Int:=le ((l.drop (3 * i)).take 5)
def dig (l:List UInt8) (i:Nat):Int:=five l i / 2 ^ (2 * i) % 67108864
def digs (l:List UInt8):List Int:=[dig l 0,dig l 1,dig l 2,dig l 3,dig l 4]
theorem cons_of {α:Type} {l:List α} {n:Nat} (h:l.length=n + 1):∃ a m,l=a :: m/\m.length=n:=by
 cases l with
 | nil=>simp at h
 | cons a m=>exact ⟨a,m,rfl,by simpa using h⟩
set_option maxRecDepth 100000 in
theorem digs_val (l:List UInt8) (hl:l.length=17) (hb:le l < 1361129467683753853853498429727072845824):val (digs l)=le l/\In 67108864 (digs l):=by
 obtain ⟨y0,l0,rfl,g0⟩:=cons_of hl
 obtain ⟨y1,l1,rfl,g1⟩:=cons_of g0
 obtain ⟨y2,l2,rfl,g2⟩:=cons_of g1
 obtain ⟨y3,l3,rfl,g3⟩:=cons_of g2
 obtain ⟨y4,l4,rfl,g4⟩:=cons_of g3
 obtain ⟨y5,l5,rfl,g5⟩:=cons_of g4
 obtain ⟨y6,l6,rfl,g6⟩:=cons_of g5
 obtain ⟨y7,l7,rfl,g7⟩:=cons_of g6
 obtain ⟨y8,l8,rfl,g8⟩:=cons_of g7
 obtain ⟨y9,l9,rfl,g9⟩:=cons_of g8
 obtain ⟨y10,l10,rfl,g10⟩:=cons_of g9
 obtain ⟨y11,l11,rfl,g11⟩:=cons_of g10
 obtain ⟨y12,l12,rfl,g12⟩:=cons_of g11
 obtain ⟨y13,l13,rfl,g13⟩:=cons_of g12
 obtain ⟨y14,l14,rfl,g14⟩:=cons_of g13
 obtain ⟨y15,l15,rfl,g15⟩:=cons_of g14
 obtain ⟨y16,l16,rfl,g16⟩:=cons_of g15
 obtain rfl:l16=[]:=List.eq_nil_of_length_eq_zero g16
 have h0:=y0.toNat_lt
 have h1:=y1.toNat_lt
 have h2:=y2.toNat_lt
 have h3:=y3.toNat_lt
 have h4:=y4.toNat_lt
 have h5:=y5.toNat_lt
 have h6:=y6.toNat_lt
 have h7:=y7.toNat_lt
 have h8:=y8.toNat_lt
 have h9:=y9.toNat_lt
 have h10:=y10.toNat_lt
 have h11:=y11.toNat_lt
 have h12:=y12.toNat_lt
 have h13:=y13.toNat_lt
 have h14:=y14.toNat_lt
 have h15:=y15.toNat_lt
 have h16:=y16.toNat_lt
 simp only [digs,dig,five,List.drop_zero,List.drop_succ_cons,List.take_zero,List.take_succ_cons,Nat.reduceMul,Nat.mul_zero,Nat.mul_one,le,val,Int.reducePow,In,List.mem_cons,List.not_mem_nil,or_false,forall_eq_or_imp,forall_eq] at hb ⊢
 have k16:y16.toNat < 4:=by omega
 refine ⟨?_,by omega⟩
 omega
def whole (b:List UInt8) (x:UInt8):List UInt8:=b ++ x :: List.replicate (16 - b.length) 0
theorem whole_length (b:List UInt8) (x:UInt8) (h:b.length<=16):(whole b x).length=17:=by simp [whole]; omega
theorem whole_le (b:List UInt8) (x:UInt8):le (whole b x)=le (b ++ [x]):=by
 rw [whole,le_append,le_append]
 simp [le,le_zeros]
theorem pow_le16 {n:Nat} (h:n<=16):(256:Int) ^ n<=340282366920938463463374607431768211456:=by
 have h1:256 ^ n<=256 ^ 16:=Nat.pow_le_pow_right (by omega) h
 have h2:((256 ^ n:Nat):Int)=(256:Int) ^ n:=by simp
 rw [<- h2]
 simp only [Nat.reducePow] at h1
 omega
theorem whole_bd (b:List UInt8) (x:UInt8) (h:b.length<=16) (hx:x.toNat<=1):0<=le (b ++ [x])/\le (b ++ [x]) < 680564733841876926926749214863536422912:=by
 have h1:=le_bound b
 have h2:=pow_le16 h
 rw [le_append]
 simp only [le,Int.mul_zero,Int.add_zero]
 have h3:(256:Int) ^ b.length * (x.toNat:Int)<=256 ^ b.length:=by
  have:x.toNat=0 ∨ x.toNat=1:=by omega
  rcases this with e | e <;> rw [e] <;> simp <;> omega
 have h4:0<=(256:Int) ^ b.length * (x.toNat:Int):=Int.mul_nonneg (by omega) (by omega)
 omega
theorem whole_digs (b:List UInt8) (x:UInt8) (h:b.length<=16) (hx:x.toNat<=1):val (digs (whole b x))=le (b ++ [x])/\In 67108864 (digs (whole b x)):=by
 have h1:=whole_bd b x h hx
 have:=digs_val (whole b x) (whole_length b x h) (by rw [whole_le]; omega)
 rw [whole_le] at this
 exact this
theorem in_mono {m n:Int} {l:List Int} (h:In m l) (hm:m<=n):In n l:=fun x hx=>by have:=h x hx; omega
theorem zip_in (a b:List Int) (m n:Int) (ha:In m a) (hb:In n b):In (m + n) (List.zipWith (· + ·) a b):=by
 intro x hx
 induction a generalizing b with
 | nil=>simp at hx
 | cons y a ih =>
  cases b with
  | nil=>simp at hx
  | cons z b =>
   simp only [List.zipWith_cons_cons,List.mem_cons] at hx
   rcases hx with rfl | hx
   ·have h1:=ha y (by simp)
    have h2:=hb z (by simp)
    omega
   ·exact ih b (fun u hu=>ha u (by simp [hu])) (fun u hu=>hb u (by simp [hu])) hx
theorem digs_length (l:List UInt8):(digs l).length=5:=rfl
theorem step_of (acc:List Int) (r pc:List UInt8) (a:Int) (h:Set5 acc) (hr:r.length=16) (hp:pc.length<=16) (ha:val acc % p=a % p) :
  Set5 (settled (tall (plusTo acc (digs (whole pc 1)) 5) (digs (whole r 0)) 5))/\val (settled (tall (plusTo acc (digs (whole pc 1)) 5) (digs (whole r 0)) 5)) % p=((a + le (pc ++ [1])) * le r) % p:=by
 obtain ⟨p1,p2⟩:=whole_digs pc 1 hp (by decide)
 obtain ⟨r1,r2⟩:=whole_digs r 0 (by omega) (by decide)
 have r3:le (r ++ [0])=le r:=by rw [le_append]; simp [le]
 obtain ⟨s1,s2,s3⟩:=plus_val acc (digs (whole pc 1)) h.len (digs_length _) (in_mono (set5_in h) (by omega)) (in_mono p2 (by omega))
 have s4:In 268435456 (plusTo acc (digs (whole pc 1)) 5):=by rw [s3]; exact in_mono (zip_in _ _ _ _ (set5_in h) p2) (by omega)
 have t1:=tall_prod _ _ s1 (digs_length (whole r 0)) s4 r2
 have t2:=prod_val _ _ s1 (digs_length (whole r 0))
 have t3:=prod_bd _ _ s1 (digs_length (whole r 0)) s4 r2
 obtain ⟨u1,u2⟩:=settled_of _ t3.1 t3.2
 rw [t1]
 refine ⟨u1,?_⟩
 rw [u2,t2,s2,p1,r1,r3,Int.mul_emod,Int.add_emod,ha,<- Int.add_emod,<- Int.mul_emod]
theorem end_of (acc:List Int) (s:List UInt8) (a:Int) (h:Set5 acc) (hs:s.length=16) (ha:val acc % p=a) :
  (plusTo (reduced acc) (digs (whole s 0)) 5).length=5/\In 268435456 (plusTo (reduced acc) (digs (whole s 0)) 5)/\bytesN 16 (val (plusTo (reduced acc) (digs (whole s 0)) 5))=bytesN 16 (a + le s):=by
 obtain ⟨p1,p2⟩:=whole_digs s 0 (by omega) (by decide)
 have r3:le (s ++ [0])=le s:=by rw [le_append]; simp [le]
 obtain ⟨o,ho,q1,q2,q3⟩:=reduced_of acc h
 obtain ⟨s1,s2,s3⟩:=plus_val (reduced acc) (digs (whole s 0)) q1 (digs_length _) (in_mono q2 (by omega)) (in_mono p2 (by omega))
 refine ⟨s1,by rw [s3]; exact in_mono (zip_in _ _ _ _ q2 p2) (by omega),?_⟩
 rw [s2,p1,r3,q3,ha,<- bytesN_mod,<- bytesN_mod 16 (a + le s)]
 congr 1
 have e:(256:Int) ^ 16=340282366920938463463374607431768211456:=by simp
 rw [e]
 omega
end Go.Proofs.YtajgjeialbgijaaDoor.Pol
namespace Go.Proofs.YtajgjeialbgijaaDoor
set_option linter.unusedVariables false
set_option linter.unusedSimpArgs false
set_option maxRecDepth 100000
open Go.RowKit
def wq (x:Int):Value:=.int .u64 x
theorem cells_wq (l:List Int):∀ u ∈ l.map wq,u.oneCell'=true:=by
 intro u hu
 obtain ⟨b,_,rfl⟩:=List.mem_map.1 hu
 rfl
def zq:List Value:=List.replicate 5 (.int .u64 0)
theorem wq_at (l:List Int) (j:Nat) (h:j < l.length):(l.map wq)[j]?=some (.int .u64 (l.getD j 0)):=by simp [wq,List.getD_eq_getElem?_getD,List.getElem?_eq_getElem h]
theorem q_at {w:World} {g j:Nat} {t:TypeId} {l:List Int} (hB:Blk w g t (l.map wq)) (hj:j < l.length):w.cell? ⟨g,j,none⟩=some (.int .u64 (l.getD j 0)):=by
 rw [hB.cell]
 exact wq_at l j hj
theorem q_put {w:World} {g j:Nat} {t:TypeId} {l:List Int} (hB:Blk w g t (l.map wq)) (x:Int):Blk (w.setCell ⟨g,j,none⟩ (.int .u64 x)) g t ((l.set j x).map wq):=by
 have:=hB.set_ j (wq x)
 rw [<- List.map_set] at this
 exact this
theorem info_num:(Tryd.prog.info? 141).map (·.size)=some 5:=by kernel_rfl
theorem u64_form (z:Int):z % 18446744073709551616=Pol.u z:=(Pol.u_eq z).symm
theorem plus_length (a b:List Int):∀ k,(Pol.plusTo a b k).length=a.length
 | 0=>rfl
 | k + 1=>by rw [Pol.plusTo,List.length_set,plus_length a b k]
set_option maxRecDepth 100000 in
set_option maxHeartbeats 2000000 in
theorem pplus_any (a b:List Int) (w:World) (ha:a.length=5) (hb:b.length=5) :
  Calls Tryd.prog 96 #[.agg (a.map wq).toArray,.agg (b.map wq).toArray] w fun e w'=>e = .returned (.agg ((Pol.plusTo a b 5).map wq).toArray)/\Below w.heap.size w w':=by
 obtain ⟨ca,hca⟩:∃ c,c=a.map wq:=⟨_,rfl⟩
 obtain ⟨cb,hcb⟩:∃ c,c=b.map wq:=⟨_,rfl⟩
 rw [<- hca,<- hcb]
 have IB:Hid ((Tryd.prog.info? 141).map (·.size)=some cb.length):=by unfold Hid; rw [hcb,List.length_map,hb]; exact info_num
 have HA:=Lib.hid hca
 have HB:=Lib.hid hcb
 have LA:=Lib.hid ha
 have LB:=Lib.hid hb
 clear hca hcb ha hb
 go_enter Tryd.func96,Tryd.ntmps96
 go_upto_region 1 with (fail)
 obtain ⟨w0,hw0⟩:∃ w0,w0=((w.alloc (Obj.cells ca.toArray 141)).alloc (Obj.cells cb.toArray 141)).alloc (Obj.cells zq.toArray 141):=⟨_,rfl⟩
 have B0:Hid (Blk w0 w.heap.size 141 ((Pol.plusTo a b 0).map wq)):=by unfold Hid; rw [hw0,Pol.plusTo,<- HA.out]; exact ((Blk.new w _ _).alloc _).alloc _
 have B1:Hid (Blk w0 (w.heap.size + 1) 141 cb):=by unfold Hid; rw [hw0]; exact (Blk.at_new _ _ _ _ _ rfl (by simp)).alloc _
 have B2:Hid (Blk w0 (w.heap.size + 1 + 1) 141 zq):=by unfold Hid; rw [hw0]; exact Blk.at_new _ _ _ _ _ rfl (by simp)
 have W0:Hid (Below w.heap.size w w0):=by unfold Hid; rw [hw0]; exact (((Below.refl _ _).alloc (Nat.le_refl _) _).alloc (by simp) _).alloc (by simp <;> omega) _
 change Code.wp _ _ _ _ (((w.alloc (Obj.cells ca.toArray 141)).alloc (Obj.cells cb.toArray 141)).alloc (Obj.cells zq.toArray 141))
 rw [<- hw0]
 clear hw0
 go_wp2_with (first
  | ((with_reducible refine load_law rfl 141 (.tmp 3) rfl (w.heap.size + 1) 0 rfl cb _ Tryd.underlying141 rfl IB.out B1.out.cells ?_)))
 go_loopw [8] (fun i wr=>∃ k:Nat,k<=5/\i = .int .i64 k/\Hid (Blk wr w.heap.size 141 ((Pol.plusTo a b k).map wq))/\Hid (Blk wr (w.heap.size + 1 + 1) 141 zq)/\Hid (Below w.heap.size w wr)) (fun i _=>5 - (intOf i).toNat)
 case atStart=>exact ⟨0,by omega,rfl,B0,B2,W0⟩
 case round =>
  clear B0 B1 B2 W0
  obtain ⟨k,hk,rfl,B0,B2,BW⟩:=hrel
  obtain ⟨m,hm⟩:∃ m,m=Pol.plusTo a b k:=⟨_,rfl⟩
  rw [<- hm] at B0
  have LM:Hid (m.length=5):=by unfold Hid; rw [hm,plus_length,LA.out]
  have HM:=Lib.hid hm
  clear hm
  by_cases hlt:k < 5
  ·have hlb:decide ((k:Int) < 5)=true:=by simp; omega
   obtain ⟨y,hy⟩:∃ y,y=b.getD k 0:=⟨_,rfl⟩
   obtain ⟨x,hx⟩:∃ x,x=m.getD k 0:=⟨_,rfl⟩
   have hix:=run_index_one (P:=Tryd.prog) wr 141 84 5 _ Tryd.underlying141 Tryd.underlying84 rfl (by kernel_rfl) cb k hlt (.int .u64 y) (by rw [HB.out,hy]; exact wq_at b k (by rw [LB.out]; exact hlt))
   have c0:wr.cell? ⟨w.heap.size,k,none⟩=some (.int .u64 x):=by rw [hx]; exact q_at B0.out (by rw [LM.out]; exact hlt)
   have f0:wr.frozen? ⟨w.heap.size,k,none⟩=false:=B0.out.frozen _
   have HN:Hid (Pol.plusTo a b (k + 1)=m.set k (Pol.u (x + y))):=by unfold Hid; rw [Pol.plusTo,<- HM.out,hx,hy]
   have HB0:Hid (Blk (wr.setCell ⟨w.heap.size,k,none⟩ (.int .u64 ((x + y) % 18446744073709551616))) w.heap.size 141 ((Pol.plusTo a b (k + 1)).map wq)):=by unfold Hid; rw [u64_form,HN.out]; exact q_put B0.out _
   have HB2:Hid (Blk (wr.setCell ⟨w.heap.size,k,none⟩ (.int .u64 ((x + y) % 18446744073709551616))) (w.heap.size + 1 + 1) 141 zq):=B2.out.far (by show _ ≠ w.heap.size; omega) _
   clear hx hy
   go_wp2_with fail
   go_roundw
   case rel=>exact ⟨k + 1,by omega,by go_num,HB0,HB2,BW.out.setCell (Nat.le_refl _) _⟩
   case measure=>simp [intOf]; omega
  ·obtain rfl:k=5:=by omega
   rw [show ((5:Nat):Int)=5 from rfl]
   obtain ⟨D,hD⟩:∃ D,D=m.map wq:=⟨_,rfl⟩
   rw [<- hD] at B0
   have hDl:D.length=5:=by rw [hD,List.length_map,LM.out]
   have ID:Hid ((Tryd.prog.info? 141).map (·.size)=some D.length):=by unfold Hid; rw [hDl]; exact info_num
   have LD:Hid (zq.length=D.length):=by unfold Hid; rw [hDl]; rfl
   have OD:Hid (∀ v ∈ D,v.oneCell'=true):=by unfold Hid; rw [hD]; exact cells_wq _
   have HD:=Lib.hid hD
   clear hDl hD
   go_wp2_with (first
    | ((with_reducible refine load_law rfl 141 (.tmp 2) rfl w.heap.size 0 rfl D _ Tryd.underlying141 rfl ID.out B0.out.cells ?_))
    | ((with_reducible refine storeGen_law rfl 141 (.tmp 4) (.tmp 19) rfl (w.heap.size + 1 + 1) rfl D rfl 141 zq ID.out LD.out OD.out w.heap.size w B2.out BW.out (by omega) ?_); intro w7 B7 W7))
   exact bodyPost_ret (results_cell_row rfl _ _ (w.heap.size + 1 + 1) 141 D.toArray (0,0) _ rfl B7.out Tryd.underlying141 rfl (by rw [ID.out]; simp)) rfl ⟨by rw [HD.out,HM.out],W7.out⟩
end Go.Proofs.YtajgjeialbgijaaDoor
namespace Go.Proofs.YtajgjeialbgijaaDoor
set_option linter.unusedVariables false
set_option linter.unusedSimpArgs false
set_option maxRecDepth 100000
open Go.RowKit
set_option maxRecDepth 100000 in
set_option maxHeartbeats 2000000 in
theorem preduced_any (n:List Int) (w:World) (hn:n.length=5) :
  Calls Tryd.prog 98 #[.agg (n.map wq).toArray] w fun e w'=>e = .returned (.agg ((Pol.reduced n).map wq).toArray)/\Below w.heap.size w w':=by
 obtain ⟨cn,hcn⟩:∃ c,c=n.map wq:=⟨_,rfl⟩
 rw [<- hcn]
 have IN:Hid ((Tryd.prog.info? 141).map (·.size)=some cn.length):=by unfold Hid; rw [hcn,List.length_map,hn]; exact info_num
 have HN:=Lib.hid hcn
 have LN:=Lib.hid hn
 clear hcn hn
 go_enter Tryd.func98,Tryd.ntmps98
 go_upto_region 1 with (fail)
 obtain ⟨w0,hw0⟩:∃ w0,w0=(w.alloc (Obj.cells cn.toArray 141)).alloc (Obj.cells zq.toArray 141):=⟨_,rfl⟩
 have B0:Hid (Blk w0 w.heap.size 141 cn):=by unfold Hid; rw [hw0]; exact (Blk.new w _ _).alloc _
 have B2:Hid (Blk w0 (w.heap.size + 1) 141 zq):=by unfold Hid; rw [hw0]; exact Blk.at_new _ _ _ _ _ rfl (by simp)
 have W0:Hid (Below w.heap.size w w0):=by unfold Hid; rw [hw0]; exact ((Below.refl _ _).alloc (Nat.le_refl _) _).alloc (by simp) _
 change Code.wp _ _ _ _ ((w.alloc (Obj.cells cn.toArray 141)).alloc (Obj.cells zq.toArray 141))
 rw [<- hw0]
 clear hw0
 go_wp2_with (first
  | ((with_reducible refine load_law rfl 141 (.tmp 1) rfl w.heap.size 0 rfl cn _ Tryd.underlying141 rfl IN.out B0.out.cells ?_)))
 go_loop [3,7] (fun o i=>∃ k:Nat,k<=5/\i = .int .i64 k/\o = .int .u64 (Pol.overTo n k)) (fun _ i=>5 - (intOf i).toNat)
 case atStart=>exact ⟨0,by omega,rfl,rfl⟩
 case round =>
  obtain ⟨k,hk,rfl,rfl⟩:=hrel
  obtain ⟨q,hq⟩:∃ q,q=Pol.overTo n k:=⟨_,rfl⟩
  rw [<- hq]
  by_cases hlt:k < 5
  ·have hlb:decide ((k:Int) < 5)=true:=by simp; omega
   obtain ⟨y,hy⟩:∃ y,y=n.getD k 0:=⟨_,rfl⟩
   have hix:=run_index_one (P:=Tryd.prog) w0 141 84 5 _ Tryd.underlying141 Tryd.underlying84 rfl (by kernel_rfl) cn k hlt (.int .u64 y) (by rw [HN.out,hy]; exact wq_at n k (by rw [LN.out]; exact hlt))
   have HO:Hid (Pol.overTo n (k + 1)=Pol.u (q + y) / 67108864):=by unfold Hid; rw [Pol.overTo,hq,hy]
   clear hq hy
   go_wp2_with fail
   go_round
   case rel=>exact ⟨k + 1,by omega,by go_num,by rw [HO.out]; rfl⟩
   case measure=>simp [intOf]; omega
  ·obtain rfl:k=5:=by omega
   rw [show ((5:Nat):Int)=5 from rfl]
   obtain ⟨x,hx⟩:∃ x,x=n.getD 0 0:=⟨_,rfl⟩
   have HB:Blk w0 w.heap.size 141 (n.map wq):=by rw [<- HN.out]; exact B0.out
   have c0:w0.cell? ⟨w.heap.size,0,none⟩=some (.int .u64 x):=by rw [hx]; exact q_at HB (by rw [LN.out]; omega)
   have f0:w0.frozen? ⟨w.heap.size,0,none⟩=false:=HB.frozen _
   obtain ⟨D,hD⟩:∃ D,D=(Pol.reduced n).map wq:=⟨_,rfl⟩
   have hDl:D.length=5:=by rw [hD,List.length_map,Pol.reduced,List.length_set,LN.out]
   have ID:Hid ((Tryd.prog.info? 141).map (·.size)=some D.length):=by unfold Hid; rw [hDl]; exact info_num
   have LD:Hid (zq.length=D.length):=by unfold Hid; rw [hDl]; rfl
   have OD:Hid (∀ v ∈ D,v.oneCell'=true):=by unfold Hid; rw [hD]; exact cells_wq _
   have HB0:Hid (Blk (w0.setCell ⟨w.heap.size,0,none⟩ (.int .u64 (IntKind.u64.wrap (x + IntKind.u64.wrap (5 * q))))) w.heap.size 141 D):=by
    unfold Hid
    rw [hD,Pol.reduced,<- hq,<- hx]
    have e:IntKind.u64.wrap (x + IntKind.u64.wrap (5 * q))=Pol.u (x + Pol.u (5 * q)):=rfl
    rw [e]
    exact q_put HB _
   have HB2:Hid (Blk (w0.setCell ⟨w.heap.size,0,none⟩ (.int .u64 (IntKind.u64.wrap (x + IntKind.u64.wrap (5 * q))))) (w.heap.size + 1) 141 zq):=B2.out.far (by show _ ≠ w.heap.size; omega) _
   have HW:Hid (Below w.heap.size w (w0.setCell ⟨w.heap.size,0,none⟩ (.int .u64 (IntKind.u64.wrap (x + IntKind.u64.wrap (5 * q)))))):=W0.out.setCell (Nat.le_refl _) _
   have HD:=Lib.hid hD
   clear hDl hD HB hq hx B0 B2 W0
   go_wp2_with (first
    | ((with_reducible refine load_law rfl 141 (.tmp 1) rfl w.heap.size 0 rfl D _ Tryd.underlying141 rfl ID.out HB0.out.cells ?_))
    | ((with_reducible refine storeGen_law rfl 141 (.tmp 2) (.tmp 21) rfl (w.heap.size + 1) rfl D rfl 141 zq ID.out LD.out OD.out w.heap.size w HB2.out HW.out (by omega) ?_); intro w7 B7 W7))
   exact bodyPost_ret (results_cell_row rfl _ _ (w.heap.size + 1) 141 D.toArray (0,0) _ rfl B7.out Tryd.underlying141 rfl (by rw [ID.out]; simp)) rfl ⟨by rw [HD.out],W7.out⟩
end Go.Proofs.YtajgjeialbgijaaDoor
namespace Go.Proofs.YtajgjeialbgijaaDoor
set_option linter.unusedVariables false
set_option linter.unusedSimpArgs false
set_option maxRecDepth 100000
open Go.RowKit
theorem u_bd (z:Int):0<=Pol.u z/\Pol.u z < 18446744073709551616:=by rw [Pol.u_eq]; omega
theorem and_mask (x:Int) (h:0<=x/\x < 18446744073709551616):bits .and .u64 x 67108863=x % 67108864:=by
 rw [u64_and x 67108863 h.1 h.2 (by omega) (by omega)]
 have:=Nat.and_two_pow_sub_one_eq_mod x.toNat 26
 simp only [Nat.reducePow,Nat.reduceSub] at this
 rw [show (67108863:Int).toNat=67108863 from rfl,this]
 omega
def rnds:Nat->List Int->List Int
 | 0,n=>n
 | k + 1,n=>Pol.round (rnds k n)
theorem carry_length (n:List Int):∀ k,(Pol.carryTo n k).1.length=n.length
 | 0=>rfl
 | k + 1=>by simp only [Pol.carryTo,List.length_set,carry_length n k]
theorem rnds_length (n:List Int):∀ k,(rnds k n).length=n.length
 | 0=>rfl
 | k + 1=>by rw [rnds,Pol.round,List.length_set,carry_length,rnds_length n k]
set_option maxRecDepth 100000 in
set_option maxHeartbeats 2000000 in
theorem psettled_any (n:List Int) (w:World) (hn:n.length=5) :
  Calls Tryd.prog 94 #[.agg (n.map wq).toArray] w fun e w'=>e = .returned (.agg ((Pol.settled n).map wq).toArray)/\Below w.heap.size w w':=by
 obtain ⟨cn,hcn⟩:∃ c,c=n.map wq:=⟨_,rfl⟩
 rw [<- hcn]
 have HN:=Lib.hid hcn
 have LN:=Lib.hid hn
 clear hcn hn
 go_enter Tryd.func94,Tryd.ntmps94
 go_upto_region 1 with (fail)
 obtain ⟨w0,hw0⟩:∃ w0,w0=(w.alloc (Obj.cells cn.toArray 141)).alloc (Obj.cells zq.toArray 141):=⟨_,rfl⟩
 have B0:Hid (Blk w0 w.heap.size 141 ((rnds 0 n).map wq)):=by unfold Hid; rw [hw0,rnds,<- HN.out]; exact (Blk.new w _ _).alloc _
 have B2:Hid (Blk w0 (w.heap.size + 1) 141 zq):=by unfold Hid; rw [hw0]; exact Blk.at_new _ _ _ _ _ rfl (by simp)
 have W0:Hid (Below w.heap.size w w0):=by unfold Hid; rw [hw0]; exact ((Below.refl _ _).alloc (Nat.le_refl _) _).alloc (by simp) _
 change Code.wp _ _ _ _ ((w.alloc (Obj.cells cn.toArray 141)).alloc (Obj.cells zq.toArray 141))
 rw [<- hw0]
 clear hw0
 go_wp2_with fail
 go_loopw [5] (fun i wr=>∃ t:Nat,t<=2/\i = .int .i64 t/\Hid (Blk wr w.heap.size 141 ((rnds t n).map wq))/\Hid (Blk wr (w.heap.size + 1) 141 zq)/\Hid (Below w.heap.size w wr)) (fun i _=>2 - (intOf i).toNat)
 case atStart=>exact ⟨0,by omega,rfl,B0,B2,W0⟩
 case round =>
  clear B0 B2 W0
  obtain ⟨t,ht,rfl,B0,B2,BW⟩:=hrel
  obtain ⟨m,hm⟩:∃ m,m=rnds t n:=⟨_,rfl⟩
  rw [<- hm] at B0
  have LM:Hid (m.length=5):=by unfold Hid; rw [hm,rnds_length,LN.out]
  have HM:=Lib.hid hm
  clear hm
  by_cases hlt:t < 2
  ·have hlb:decide ((t:Int) < 2)=true:=by simp; omega
   go_wp2_with fail
   clear hlb
   obtain ⟨wo,rfl⟩:∃ wo,wo=wr:=⟨_,rfl⟩
   have C0:Hid (Blk wo w.heap.size 141 ((Pol.carryTo m 0).1.map wq)):=B0
   go_loopw [3,7] (fun o i wr=>∃ k:Nat,k<=5/\i = .int .i64 k/\o = .int .u64 (Pol.carryTo m k).2/\Hid (Blk wr w.heap.size 141 ((Pol.carryTo m k).1.map wq))/\Hid (Blk wr (w.heap.size + 1) 141 zq)/\Hid (Below w.heap.size w wr)) (fun _ i _=>5 - (intOf i).toNat)
   case atStart=>exact ⟨0,by omega,rfl,rfl,C0,B2,BW⟩
   case round =>
    clear B0 B2 BW C0
    obtain ⟨k,hk,rfl,rfl,B0,B2,BW⟩:=hrel
    obtain ⟨q,hq⟩:∃ q,q=(Pol.carryTo m k).2:=⟨_,rfl⟩
    obtain ⟨l,hl⟩:∃ l,l=(Pol.carryTo m k).1:=⟨_,rfl⟩
    rw [<- hq]
    rw [<- hl] at B0
    have LL:Hid (l.length=5):=by unfold Hid; rw [hl,carry_length,LM.out]
    by_cases hlt:k < 5
    ·have hlb:decide ((k:Int) < 5)=true:=by simp; omega
     obtain ⟨x,hx⟩:∃ x,x=l.getD k 0:=⟨_,rfl⟩
     have c0:wr.cell? ⟨w.heap.size,k,none⟩=some (.int .u64 x):=by rw [hx]; exact q_at B0.out (by rw [LL.out]; exact hlt)
     have f0:wr.frozen? ⟨w.heap.size,k,none⟩=false:=B0.out.frozen _
     obtain ⟨z,hz⟩:∃ z,z=IntKind.u64.wrap (x + q):=⟨_,rfl⟩
     have HC1:Hid ((Pol.carryTo m (k + 1)).1=l.set k (z % 67108864)):=by unfold Hid; simp only [Pol.carryTo]; rw [<- hl,<- hq,<- hx,hz]; rfl
     have HC2:Hid ((Pol.carryTo m (k + 1)).2=z / 67108864):=by unfold Hid; simp only [Pol.carryTo]; rw [<- hl,<- hq,<- hx,hz]; rfl
     have hz0:0<=z:=by rw [hz]; exact (u_bd _).1
     have hz1:z < 18446744073709551616:=by rw [hz]; exact (u_bd _).2
     clear hx hq hl
     go_upto_region 8 with (fail)
     rw [<- hz]
     clear hz c0 f0
     have B1:Hid (Blk (wr.setCell ⟨w.heap.size,k,none⟩ (.int .u64 z)) w.heap.size 141 ((l.set k z).map wq)):=q_put B0.out z
     have Z1:Hid (Blk (wr.setCell ⟨w.heap.size,k,none⟩ (.int .u64 z)) (w.heap.size + 1) 141 zq):=B2.out.far (by show _ ≠ w.heap.size; omega) _
     have W1:Hid (Below w.heap.size w (wr.setCell ⟨w.heap.size,k,none⟩ (.int .u64 z))):=BW.out.setCell (Nat.le_refl _) _
     clear B0 B2 BW
     generalize wr.setCell ⟨w.heap.size,k,none⟩ (.int .u64 z)=w1 at *
     have c1:w1.cell? ⟨w.heap.size,k,none⟩=some (.int .u64 z):=by
      rw [q_at B1.out (by rw [List.length_set,LL.out]; exact hlt),List.getD_eq_getElem?_getD,List.getElem?_set_self (by rw [LL.out]; exact hlt)]
      rfl
     have f1:w1.frozen? ⟨w.heap.size,k,none⟩=false:=B1.out.frozen _
     have hmask:=and_mask z ⟨hz0,hz1⟩
     have B3:Hid (Blk (w1.setCell ⟨w.heap.size,k,none⟩ (.int .u64 (z % 67108864))) w.heap.size 141 ((Pol.carryTo m (k + 1)).1.map wq)):=by
      unfold Hid
      have:=q_put (j:=k) B1.out (z % 67108864)
      rw [List.set_set,<- HC1.out] at this
      exact this
     have Z3:Hid (Blk (w1.setCell ⟨w.heap.size,k,none⟩ (.int .u64 (z % 67108864))) (w.heap.size + 1) 141 zq):=Z1.out.far (by show _ ≠ w.heap.size; omega) _
     go_wp2_with fail
     go_roundw
     case rel=>exact ⟨k + 1,by omega,by go_num,by rw [HC2.out],B3,Z3,W1.out.setCell (Nat.le_refl _) _⟩
     case measure=>simp [intOf]; omega
    ·obtain rfl:k=5:=by omega
     rw [show ((5:Nat):Int)=5 from rfl]
     obtain ⟨x,hx⟩:∃ x,x=l.getD 0 0:=⟨_,rfl⟩
     have c0:wr.cell? ⟨w.heap.size,0,none⟩=some (.int .u64 x):=by rw [hx]; exact q_at B0.out (by rw [LL.out]; omega)
     have f0:wr.frozen? ⟨w.heap.size,0,none⟩=false:=B0.out.frozen _
     have B3:Hid (Blk (wr.setCell ⟨w.heap.size,0,none⟩ (.int .u64 (IntKind.u64.wrap (x + IntKind.u64.wrap (5 * q))))) w.heap.size 141 ((rnds (t + 1) n).map wq)):=by
      unfold Hid
      have e:rnds (t + 1) n=l.set 0 (IntKind.u64.wrap (x + IntKind.u64.wrap (5 * q))):=by rw [rnds,<- HM.out,hx,hl,hq]; rfl
      rw [e]
      exact q_put B0.out _
     have Z3:Hid (Blk (wr.setCell ⟨w.heap.size,0,none⟩ (.int .u64 (IntKind.u64.wrap (x + IntKind.u64.wrap (5 * q))))) (w.heap.size + 1) 141 zq):=B2.out.far (by show _ ≠ w.heap.size; omega) _
     clear hx hl hq
     go_wp2_with fail
     go_roundw
     case rel=>exact ⟨t + 1,by omega,by go_num,B3,Z3,BW.out.setCell (Nat.le_refl _) _⟩
     case measure=>simp [intOf]; omega
  ·obtain rfl:t=2:=by omega
   rw [show ((2:Nat):Int)=2 from rfl]
   obtain ⟨D,hD⟩:∃ D,D=m.map wq:=⟨_,rfl⟩
   rw [<- hD] at B0
   have hDl:D.length=5:=by rw [hD,List.length_map,LM.out]
   have ID:Hid ((Tryd.prog.info? 141).map (·.size)=some D.length):=by unfold Hid; rw [hDl]; exact info_num
   have LD:Hid (zq.length=D.length):=by unfold Hid; rw [hDl]; rfl
   have OD:Hid (∀ v ∈ D,v.oneCell'=true):=by unfold Hid; rw [hD]; exact cells_wq _
   have HD:=Lib.hid hD
   clear hDl hD
   go_wp2_with (first
    | ((with_reducible refine load_law rfl 141 (.tmp 1) rfl w.heap.size 0 rfl D _ Tryd.underlying141 rfl ID.out B0.out.cells ?_))
    | ((with_reducible refine storeGen_law rfl 141 (.tmp 2) (.tmp 33) rfl (w.heap.size + 1) rfl D rfl 141 zq ID.out LD.out OD.out w.heap.size w B2.out BW.out (by omega) ?_); intro w7 B7 W7))
   exact bodyPost_ret (results_cell_row rfl _ _ (w.heap.size + 1) 141 D.toArray (0,0) _ rfl B7.out Tryd.underlying141 rfl (by rw [ID.out]; simp)) rfl ⟨by rw [HD.out,HM.out]; rfl,W7.out⟩
end Go.Proofs.YtajgjeialbgijaaDoor
namespace Go.Proofs.YtajgjeialbgijaaDoor
set_option linter.unusedVariables false
set_option linter.unusedSimpArgs false
set_option maxRecDepth 100000
open Go.RowKit
theorem tset_length (n:List Int) (i k:Nat) (x y:Int):(Pol.tset n i k x y).length=n.length:=by unfold Pol.tset; split <;> simp
theorem trow_length (a b n:List Int) (i:Nat):∀ k,(Pol.trow a b n i k).length=n.length
 | 0=>rfl
 | k + 1=>by rw [Pol.trow,tset_length,trow_length a b n i k]
theorem tall_length (a b:List Int):∀ i,(Pol.tall a b i).length=5
 | 0=>rfl
 | i + 1=>by rw [Pol.tall,trow_length,tall_length a b i]
set_option maxRecDepth 100000 in
set_option maxHeartbeats 2000000 in
theorem ptimes_any (a b:List Int) (w:World) (ha:a.length=5) (hb:b.length=5) :
  Calls Tryd.prog 95 #[.agg (a.map wq).toArray,.agg (b.map wq).toArray] w fun e w'=>e = .returned (.agg ((Pol.tall a b 5).map wq).toArray)/\Below w.heap.size w w':=by
 obtain ⟨ca,hca⟩:∃ c,c=a.map wq:=⟨_,rfl⟩
 obtain ⟨cb,hcb⟩:∃ c,c=b.map wq:=⟨_,rfl⟩
 rw [<- hca,<- hcb]
 have IA:Hid ((Tryd.prog.info? 141).map (·.size)=some ca.length):=by unfold Hid; rw [hca,List.length_map,ha]; exact info_num
 have IB:Hid ((Tryd.prog.info? 141).map (·.size)=some cb.length):=by unfold Hid; rw [hcb,List.length_map,hb]; exact info_num
 have HA:=Lib.hid hca
 have HB:=Lib.hid hcb
 have LA:=Lib.hid ha
 have LB:=Lib.hid hb
 clear hca hcb ha hb
 go_enter Tryd.func95,Tryd.ntmps95
 go_upto_region 2 with (fail)
 obtain ⟨w0,hw0⟩:∃ w0,w0=(((w.alloc (Obj.cells ca.toArray 141)).alloc (Obj.cells cb.toArray 141)).alloc (Obj.cells zq.toArray 141)).alloc (Obj.cells zq.toArray 141):=⟨_,rfl⟩
 have B0:Hid (Blk w0 w.heap.size 141 ca):=by unfold Hid; rw [hw0]; exact (((Blk.new w _ _).alloc _).alloc _).alloc _
 have B1:Hid (Blk w0 (w.heap.size + 1) 141 cb):=by unfold Hid; rw [hw0]; exact ((Blk.at_new _ _ _ _ _ rfl (by simp)).alloc _).alloc _
 have B2:Hid (Blk w0 (w.heap.size + 1 + 1) 141 zq):=by unfold Hid; rw [hw0]; exact (Blk.at_new _ _ _ _ _ rfl (by simp)).alloc _
 have B3:Hid (Blk w0 (w.heap.size + 1 + 1 + 1) 141 ((Pol.tall a b 0).map wq)):=by unfold Hid; rw [hw0]; exact Blk.at_new _ _ _ _ _ rfl (by simp)
 have W0:Hid (Below w.heap.size w w0):=by unfold Hid; rw [hw0]; exact ((((Below.refl _ _).alloc (Nat.le_refl _) _).alloc (by simp) _).alloc (by simp <;> omega) _).alloc (by simp <;> omega) _
 change Code.wp _ _ _ _ ((((w.alloc (Obj.cells ca.toArray 141)).alloc (Obj.cells cb.toArray 141)).alloc (Obj.cells zq.toArray 141)).alloc (Obj.cells zq.toArray 141))
 rw [<- hw0]
 clear hw0
 go_wp2_with (first
  | ((with_reducible refine load_law rfl 141 (.tmp 2) rfl w.heap.size 0 rfl ca _ Tryd.underlying141 rfl IA.out B0.out.cells ?_)))
 go_loopw [12] (fun i wr=>∃ k:Nat,k<=5/\i = .int .i64 k/\Hid (Blk wr (w.heap.size + 1) 141 cb)/\Hid (Blk wr (w.heap.size + 1 + 1) 141 zq)/\Hid (Blk wr (w.heap.size + 1 + 1 + 1) 141 ((Pol.tall a b k).map wq))/\Hid (Below w.heap.size w wr)) (fun i _=>5 - (intOf i).toNat)
 case atStart=>exact ⟨0,by omega,rfl,B1,B2,B3,W0⟩
 case round =>
  clear B0 B1 B2 B3 W0
  obtain ⟨i,hi,rfl,B1,B2,B3,BW⟩:=hrel
  obtain ⟨m,hm⟩:∃ m,m=Pol.tall a b i:=⟨_,rfl⟩
  rw [<- hm] at B3
  have LM:Hid (m.length=5):=by unfold Hid; rw [hm,tall_length]
  have HM:=Lib.hid hm
  clear hm
  by_cases hlt:i < 5
  ·have hlb:decide ((i:Int) < 5)=true:=by simp; omega
   obtain ⟨x,hx⟩:∃ x,x=a.getD i 0:=⟨_,rfl⟩
   have hix:=run_index_one (P:=Tryd.prog) wr 141 84 5 _ Tryd.underlying141 Tryd.underlying84 rfl (by kernel_rfl) ca i hlt (.int .u64 x) (by rw [HA.out,hx]; exact wq_at a i (by rw [LA.out]; exact hlt))
   have HX:=Lib.hid hx
   clear hx
   go_wp2_with (first
    | ((with_reducible refine load_law rfl 141 (.tmp 3) rfl (w.heap.size + 1) 0 rfl cb _ Tryd.underlying141 rfl IB.out B1.out.cells ?_)))
   clear hlb hix
   obtain ⟨wo,rfl⟩:∃ wo,wo=wr:=⟨_,rfl⟩
   have C3:Hid (Blk wo (w.heap.size + 1 + 1 + 1) 141 ((Pol.trow a b m i 0).map wq)):=B3
   go_loopw [17] (fun j wr=>∃ k:Nat,k<=5/\j = .int .i64 k/\Hid (Blk wr (w.heap.size + 1) 141 cb)/\Hid (Blk wr (w.heap.size + 1 + 1) 141 zq)/\Hid (Blk wr (w.heap.size + 1 + 1 + 1) 141 ((Pol.trow a b m i k).map wq))/\Hid (Below w.heap.size w wr)) (fun j _=>5 - (intOf j).toNat)
   case atStart=>exact ⟨0,by omega,rfl,B1,B2,C3,BW⟩
   case round =>
    clear B1 B2 B3 BW C3
    obtain ⟨k,hk,rfl,B1,B2,B3,BW⟩:=hrel
    obtain ⟨l,hl⟩:∃ l,l=Pol.trow a b m i k:=⟨_,rfl⟩
    rw [<- hl] at B3
    have LL:Hid (l.length=5):=by unfold Hid; rw [hl,trow_length,LM.out]
    have HL:=Lib.hid hl
    clear hl
    by_cases hltk:k < 5
    ·have hlb:decide ((k:Int) < 5)=true:=by simp; omega
     obtain ⟨y,hy⟩:∃ y,y=b.getD k 0:=⟨_,rfl⟩
     have hix:=run_index_one (P:=Tryd.prog) wr 141 84 5 _ Tryd.underlying141 Tryd.underlying84 rfl (by kernel_rfl) cb k hltk (.int .u64 y) (by rw [HB.out,hy]; exact wq_at b k (by rw [LB.out]; exact hltk))
     have HR:Hid (Pol.trow a b m i (k + 1)=Pol.tset l i k x y):=by unfold Hid; rw [Pol.trow,HL.out,HX.out,hy]
     clear hy
     by_cases hsum:i + k < 5
     ·have hsb:decide ((i:Int) + (k:Int) < 5)=true:=by simp; omega
      obtain ⟨z,hz⟩:∃ z,z=l.getD (i + k) 0:=⟨_,rfl⟩
      have c0:wr.cell? ⟨w.heap.size + 1 + 1 + 1,i + k,none⟩=some (.int .u64 z):=by rw [hz]; exact q_at B3.out (by rw [LL.out]; exact hsum)
      have f0:wr.frozen? ⟨w.heap.size + 1 + 1 + 1,i + k,none⟩=false:=B3.out.frozen _
      have D3:Hid (Blk (wr.setCell ⟨w.heap.size + 1 + 1 + 1,i + k,none⟩ (.int .u64 (IntKind.u64.wrap (z + IntKind.u64.wrap (x * y))))) (w.heap.size + 1 + 1 + 1) 141 ((Pol.trow a b m i (k + 1)).map wq)):=by
       unfold Hid
       rw [HR.out,Pol.tset_lt _ _ _ _ _ hsum,<- hz]
       exact q_put B3.out _
      have D1:Hid (Blk (wr.setCell ⟨w.heap.size + 1 + 1 + 1,i + k,none⟩ (.int .u64 (IntKind.u64.wrap (z + IntKind.u64.wrap (x * y))))) (w.heap.size + 1) 141 cb):=B1.out.far (by show _ ≠ w.heap.size + 1 + 1 + 1; omega) _
      have D2:Hid (Blk (wr.setCell ⟨w.heap.size + 1 + 1 + 1,i + k,none⟩ (.int .u64 (IntKind.u64.wrap (z + IntKind.u64.wrap (x * y))))) (w.heap.size + 1 + 1) 141 zq):=B2.out.far (by show _ ≠ w.heap.size + 1 + 1 + 1; omega) _
      clear hz
      have hcast:((i:Int) + (k:Int)).toNat=i + k:=by omega
      go_wp2_with fail
      go_roundw
      case rel=>exact ⟨k + 1,by omega,by go_num,D1,D2,D3,BW.out.setCell (by show w.heap.size<=w.heap.size + 1 + 1 + 1; omega) _⟩
      case measure=>simp [intOf]; omega
     ·have hsb:decide ((i:Int) + (k:Int) < 5)=false:=by simp; omega
      obtain ⟨j,hj⟩:∃ j:Nat,j=i + k - 5:=⟨_,rfl⟩
      have hjc:(i:Int) + (k:Int) - 5=(j:Int):=by omega
      have hj5:j < 5:=by omega
      obtain ⟨z,hz⟩:∃ z,z=l.getD j 0:=⟨_,rfl⟩
      have c0:wr.cell? ⟨w.heap.size + 1 + 1 + 1,j,none⟩=some (.int .u64 z):=by rw [hz]; exact q_at B3.out (by rw [LL.out]; exact hj5)
      have f0:wr.frozen? ⟨w.heap.size + 1 + 1 + 1,j,none⟩=false:=B3.out.frozen _
      have D3:Hid (Blk (wr.setCell ⟨w.heap.size + 1 + 1 + 1,j,none⟩ (.int .u64 (IntKind.u64.wrap (z + IntKind.u64.wrap (IntKind.u64.wrap (5 * x) * y))))) (w.heap.size + 1 + 1 + 1) 141 ((Pol.trow a b m i (k + 1)).map wq)):=by
       unfold Hid
       rw [HR.out,Pol.tset_ge _ _ _ _ _ hsum,<- hj,<- hz]
       exact q_put B3.out _
      have D1:Hid (Blk (wr.setCell ⟨w.heap.size + 1 + 1 + 1,j,none⟩ (.int .u64 (IntKind.u64.wrap (z + IntKind.u64.wrap (IntKind.u64.wrap (5 * x) * y))))) (w.heap.size + 1) 141 cb):=B1.out.far (by show _ ≠ w.heap.size + 1 + 1 + 1; omega) _
      have D2:Hid (Blk (wr.setCell ⟨w.heap.size + 1 + 1 + 1,j,none⟩ (.int .u64 (IntKind.u64.wrap (z + IntKind.u64.wrap (IntKind.u64.wrap (5 * x) * y))))) (w.heap.size + 1 + 1) 141 zq):=B2.out.far (by show _ ≠ w.heap.size + 1 + 1 + 1; omega) _
      clear hz hj
      go_wp2_with fail
      go_roundw
      case rel=>exact ⟨k + 1,by omega,by go_num,D1,D2,D3,BW.out.setCell (by show w.heap.size<=w.heap.size + 1 + 1 + 1; omega) _⟩
      case measure=>simp [intOf]; omega
    ·obtain rfl:k=5:=by omega
     rw [show ((5:Nat):Int)=5 from rfl]
     have D3:Hid (Blk wr (w.heap.size + 1 + 1 + 1) 141 ((Pol.tall a b (i + 1)).map wq)):=by unfold Hid; rw [Pol.tall,<- HM.out,<- HL.out]; exact B3.out
     go_wp2_with fail
     go_roundw
     case rel=>exact ⟨i + 1,by omega,by go_num,B1,B2,D3,BW⟩
     case measure=>simp [intOf]; omega
  ·obtain rfl:i=5:=by omega
   rw [show ((5:Nat):Int)=5 from rfl]
   obtain ⟨D,hD⟩:∃ D,D=m.map wq:=⟨_,rfl⟩
   rw [<- hD] at B3
   have hDl:D.length=5:=by rw [hD,List.length_map,LM.out]
   have ID:Hid ((Tryd.prog.info? 141).map (·.size)=some D.length):=by unfold Hid; rw [hDl]; exact info_num
   have LD:Hid (zq.length=D.length):=by unfold Hid; rw [hDl]; rfl
   have OD:Hid (∀ v ∈ D,v.oneCell'=true):=by unfold Hid; rw [hD]; exact cells_wq _
   have HD:=Lib.hid hD
   clear hDl hD
   go_wp2_with (first
    | ((with_reducible refine load_law rfl 141 (.tmp 5) rfl (w.heap.size + 1 + 1 + 1) 0 rfl D _ Tryd.underlying141 rfl ID.out B3.out.cells ?_))
    | ((with_reducible refine storeGen_law rfl 141 (.tmp 4) (.tmp 46) rfl (w.heap.size + 1 + 1) rfl D rfl 141 zq ID.out LD.out OD.out w.heap.size w B2.out BW.out (by omega) ?_); intro w7 B7 W7))
   exact bodyPost_ret (results_cell_row rfl _ _ (w.heap.size + 1 + 1) 141 D.toArray (0,0) _ rfl B7.out Tryd.underlying141 rfl (by rw [ID.out]; simp)) rfl ⟨by rw [HD.out,HM.out],W7.out⟩
end Go.Proofs.YtajgjeialbgijaaDoor
namespace Go.Proofs.YtajgjeialbgijaaDoor
set_option linter.unusedVariables false
set_option linter.unusedSimpArgs false
set_option maxRecDepth 100000
open Go.RowKit
def outL (V:Int) (a:Nat):List Value:=(Pol.bytesN a V).map cellOf ++ List.replicate (16 - a) (.int .u8 0)
theorem outL_set (V:Int) (a:Nat) (h:a < 16):(outL V a).set a (cellOf (Sha.by8 (V / 256 ^ a)))=outL V (a + 1):=by
 unfold outL
 rw [List.set_append_right _ _ (by simp [Pol.bytesN_length]),Pol.bytesN_succ,show 16 - a=(16 - (a + 1)) + 1 by omega,List.replicate_succ]
 simp [Pol.bytesN_length]
theorem outL_at (V:Int) (a:Nat) (h:a < 16):(outL V a)[a]?=some (.int .u8 0):=by
 unfold outL
 rw [List.getElem?_append_right (by simp [Pol.bytesN_length])]
 rw [List.length_map,Pol.bytesN_length,Nat.sub_self]
 exact List.getElem?_replicate_of_lt (by omega)
theorem outL_full (V:Int):outL V 16=(Pol.bytesN 16 V).map cellOf:=by unfold outL; simp
theorem cell_by8p (z:Int):cellOf (Sha.by8 z) = .int .u8 (z % 256):=by unfold cellOf; rw [Pol.by8_toNat]
set_option maxRecDepth 100000 in
set_option maxHeartbeats 2000000 in
theorem plow_any (n:List Int) (w:World) (hn:n.length=5) (hb:Pol.In 268435456 n) :
  Calls Tryd.prog 97 #[.agg (n.map wq).toArray] w fun e w'=>e = .returned (.agg ((Pol.bytesN 16 (Pol.val n)).map cellOf).toArray)/\Below w.heap.size w w':=by
 obtain ⟨cn,hcn⟩:∃ c,c=n.map wq:=⟨_,rfl⟩
 rw [<- hcn]
 have IN:Hid ((Tryd.prog.info? 141).map (·.size)=some cn.length):=by unfold Hid; rw [hcn,List.length_map,hn]; exact info_num
 have HN:=Lib.hid hcn
 have LN:=Lib.hid hn
 have HI:=Lib.hid hb
 clear hcn hn hb
 go_enter Tryd.func97,Tryd.ntmps97
 go_upto_region 2 with (fail)
 obtain ⟨w0,hw0⟩:∃ w0,w0=((w.alloc (Obj.cells cn.toArray 141)).alloc (Obj.cells (List.replicate 16 (Value.int .u8 0)).toArray 128)).alloc (Obj.cells (List.replicate 16 (Value.int .u8 0)).toArray 128):=⟨_,rfl⟩
 have B0:Hid (Blk w0 w.heap.size 141 cn):=by unfold Hid; rw [hw0]; exact ((Blk.new w _ _).alloc _).alloc _
 have B1:Hid (Blk w0 (w.heap.size + 1) 128 (List.replicate 16 (Value.int .u8 0))):=by unfold Hid; rw [hw0]; exact (Blk.at_new _ _ _ _ _ rfl (by simp)).alloc _
 have B2:Hid (Blk w0 (w.heap.size + 1 + 1) 128 (outL 0 0)):=by unfold Hid; rw [hw0]; exact Blk.at_new _ _ _ _ _ rfl (by simp)
 have W0:Hid (Below w.heap.size w w0):=by unfold Hid; rw [hw0]; exact (((Below.refl _ _).alloc (Nat.le_refl _) _).alloc (by simp) _).alloc (by simp <;> omega) _
 change Code.wp _ _ _ _ (((w.alloc (Obj.cells cn.toArray 141)).alloc (Obj.cells (List.replicate 16 (Value.int .u8 0)).toArray 128)).alloc (Obj.cells (List.replicate 16 (Value.int .u8 0)).toArray 128))
 rw [<- hw0]
 clear hw0
 go_wp2_with (first
  | ((with_reducible refine load_law rfl 141 (.tmp 1) rfl w.heap.size 0 rfl cn _ Tryd.underlying141 rfl IN.out B0.out.cells ?_)))
 go_loopw [4,5,9] (fun r t i wr=>∃ (k a:Nat) (q:Int),k<=5/\i = .int .i64 k/\t = .int .i64 a/\r = .int .u64 q/\Hid (a=26 * k / 8)/\Hid (q=Pol.val (n.take k) / 256 ^ a)/\Hid (Blk wr (w.heap.size + 1) 128 (List.replicate 16 (Value.int .u8 0)))/\Hid (Blk wr (w.heap.size + 1 + 1) 128 (outL (Pol.val (n.take k)) a))/\Hid (Below w.heap.size w wr)) (fun _ _ i _=>5 - (intOf i).toNat)
 case atStart=>exact ⟨0,0,0,by omega,rfl,rfl,rfl,rfl,by unfold Hid; simp [Pol.val],B1,B2,W0⟩
 case round =>
  clear B0 B1 B2 W0
  obtain ⟨k,a,q,hk,rfl,rfl,rfl,HKA,HQ,B1,B2,BW⟩:=hrel
  by_cases hlt:k < 5
  ·have hlb:decide ((k:Int) < 5)=true:=by simp; omega
   obtain ⟨x,hx⟩:∃ x,x=n.getD k 0:=⟨_,rfl⟩
   have hix:=run_index_one (P:=Tryd.prog) wr 141 84 5 _ Tryd.underlying141 Tryd.underlying84 rfl (by kernel_rfl) cn k hlt (.int .u64 x) (by rw [HN.out,hx]; exact wq_at n k (by rw [LN.out]; exact hlt))
   obtain ⟨s,hs⟩:∃ s:Nat,s=26 * k - 8 * a:=⟨_,rfl⟩
   have hka:=HKA.out
   have hsi:26 * (k:Int) - 8 * (a:Int)=(s:Int):=by omega
   have hs8:s < 8:=by omega
   have ha16:a<=13:=by omega
   obtain ⟨V,hV⟩:∃ V,V=Pol.val (n.take (k + 1)):=⟨_,rfl⟩
   have HV:Hid (IntKind.u64.wrap (q + IntKind.u64.wrap (x * 2 ^ s))=V / 256 ^ a):=by
    unfold Hid
    have:=Pol.low_in n k LN.out hlt HI.out
    rw [<- hka,<- hs,<- hx,<- hV,<- HQ.out] at this
    exact this
   have HF:Hid (outL (Pol.val (n.take k)) a=outL V a):=by unfold Hid outL; rw [hka,Pol.low_front n k LN.out hlt HI.out,<- hV]
   have HVV:=Lib.hid hV
   clear hx hs hka hV
   go_upto_region 8 with (fail)
   rw [HV.out]
   clear hlb hix hsi
   have C2:Hid (Blk wr (w.heap.size + 1 + 1) 128 (outL V a)):=by unfold Hid; rw [<- HF.out]; exact B2.out
   obtain ⟨q1,hq1⟩:∃ q,q=V / 256 ^ a:=⟨_,rfl⟩
   rw [<- hq1]
   have HQ1:=Lib.hid hq1
   clear hq1 B2
   obtain ⟨wo,rfl⟩:∃ wo,wo=wr:=⟨_,rfl⟩
   go_loopw [4,5] (fun r t wr=>∃ (j:Nat) (q:Int),Hid (j<=26 * (k + 1) / 8)/\j<=16/\t = .int .i64 j/\r = .int .u64 q/\Hid (q=V / 256 ^ j)/\Hid (Blk wr (w.heap.size + 1) 128 (List.replicate 16 (Value.int .u8 0)))/\Hid (Blk wr (w.heap.size + 1 + 1) 128 (outL V j))/\Hid (Below w.heap.size w wr)) (fun _ t _=>17 - (intOf t).toNat)
   case atStart=>exact ⟨a,q1,by unfold Hid; have:=HKA.out; omega,by omega,rfl,rfl,HQ1,B1,C2,BW⟩
   case round =>
    clear B1 C2 BW
    obtain ⟨j,q2,HJ,hj16,rfl,rfl,HQ2,B1,B2,BW⟩:=hrel
    by_cases hin:8 * (j + 1)<=26 * (k + 1)
    ·have hib:decide (8 * ((j:Int) + 1)<=26 * ((k:Int) + 1))=true:=by simp; omega
     have hjl:j < 16:=by omega
     have c0:wr.cell? ⟨w.heap.size + 1 + 1,j,none⟩=some (.int .u8 0):=by rw [B2.out.cell]; exact outL_at V j hjl
     have f0:wr.frozen? ⟨w.heap.size + 1 + 1,j,none⟩=false:=B2.out.frozen _
     have D2:Hid (Blk (wr.setCell ⟨w.heap.size + 1 + 1,j,none⟩ (.int .u8 (q2 % 256))) (w.heap.size + 1 + 1) 128 (outL V (j + 1))):=by
      unfold Hid
      rw [<- cell_by8p,HQ2.out,<- outL_set V j hjl]
      exact B2.out.set_ j _
     have D1:Hid (Blk (wr.setCell ⟨w.heap.size + 1 + 1,j,none⟩ (.int .u8 (q2 % 256))) (w.heap.size + 1) 128 (List.replicate 16 (Value.int .u8 0))):=B1.out.far (by show _ ≠ w.heap.size + 1 + 1; omega) _
     have HQ3:Hid (q2 / 256=V / 256 ^ (j + 1)):=by unfold Hid; rw [HQ2.out,Pol.div_next]
     go_wp2_with fail
     go_roundw
     case rel=>exact ⟨j + 1,q2 / 256,by unfold Hid; omega,by omega,by go_num,rfl,HQ3,D1,D2,BW.out.setCell (by show w.heap.size<=w.heap.size + 1 + 1; omega) _⟩
     case measure=>simp [intOf]; omega
    ·have hib:decide (8 * ((j:Int) + 1)<=26 * ((k:Int) + 1))=false:=by simp; omega
     have HE:Hid (j=26 * (k + 1) / 8):=by unfold Hid; have:=HJ.out; omega
     have HQ3:Hid (q2=Pol.val (n.take (k + 1)) / 256 ^ j):=by unfold Hid; rw [HQ2.out,HVV.out]
     have D2:Hid (Blk wr (w.heap.size + 1 + 1) 128 (outL (Pol.val (n.take (k + 1))) j)):=by unfold Hid; rw [<- HVV.out]; exact B2.out
     go_wp2_with fail
     go_roundw
     case rel=>exact ⟨k + 1,j,q2,by omega,by go_num,rfl,rfl,HE,HQ3,B1,D2,BW⟩
     case measure=>simp [intOf]; omega
  ·obtain rfl:k=5:=by omega
   rw [show ((5:Nat):Int)=5 from rfl]
   obtain rfl:a=16:=HKA.out
   obtain ⟨D,hD⟩:∃ D,D=(Pol.bytesN 16 (Pol.val n)).map cellOf:=⟨_,rfl⟩
   have hBD:Blk wr (w.heap.size + 1 + 1) 128 D:=by
    have:=B2.out
    rw [List.take_of_length_le (by rw [LN.out]; omega),outL_full,<- hD] at this
    exact this
   have hDl:D.length=16:=by rw [hD,List.length_map,Pol.bytesN_length]
   have ID:Hid ((Tryd.prog.info? 128).map (·.size)=some D.length):=by unfold Hid; rw [hDl]; kernel_rfl
   have LD:Hid ((List.replicate 16 (Value.int .u8 0)).length=D.length):=by unfold Hid; rw [hDl]; rfl
   have OD:Hid (∀ v ∈ D,v.oneCell'=true):=by unfold Hid; rw [hD]; exact cells_u8 _
   have HD:=Lib.hid hD
   have BD:=Lib.hid hBD
   clear hDl hD hBD B2
   go_wp2_with (first
    | ((with_reducible refine load_law rfl 128 (.tmp 3) rfl (w.heap.size + 1 + 1) 0 rfl D _ Tryd.underlying128 rfl ID.out BD.out.cells ?_))
    | ((with_reducible refine storeGen_law rfl 128 (.tmp 2) (.tmp 38) rfl (w.heap.size + 1) rfl D rfl 128 (List.replicate 16 (Value.int .u8 0)) ID.out LD.out OD.out w.heap.size w B1.out BW.out (by omega) ?_); intro w7 B7 W7))
   exact bodyPost_ret (results_cell_row rfl _ _ (w.heap.size + 1) 128 D.toArray (0,0) _ rfl B7.out Tryd.underlying128 rfl (by rw [ID.out]; simp)) rfl ⟨by rw [HD.out],W7.out⟩
end Go.Proofs.YtajgjeialbgijaaDoor
namespace Go.Proofs.YtajgjeialbgijaaDoor
set_option linter.unusedVariables false
set_option linter.unusedSimpArgs false
set_option maxRecDepth 100000
open Go.RowKit
theorem sliceAt_lh (t:TypeId) (n:Nat) (ht:Tryd.prog.underlying t=some (.array n 5)) (g off a e:Nat) (ha:a < n) (hae:a<=e) (he:e<=n) (W:World) :
  (Instr.sliceAt t (.pointer (some ⟨g,off,none⟩)) (some (.int .i64 (a:Int))) (some (.int .i64 (e:Int))) none).run Tryd.prog W = .ok (.slice (some ⟨g,off + a,none⟩) (e - a) (n - a)) W:=by
 obtain ⟨i0,hi,hz0,hz1,hz2⟩:=info_parts info5
 have h1:¬ n=a:=by omega
 have h2:(e:Int)<=(n:Int):=by omega
 have h3:(a:Int)<=(e:Int):=by omega
 simp [Instr.sliceAt,run_underlying ht,Instr.sureAddr,Instr.sliceBounds,sizeOf,typeInfo,hi,hz1,asIntOf,add_plain,h1,h2,h3,hae,he,go_sem]
theorem whole_cells (n:Nat) (b:List UInt8) (x:UInt8) (hb:b.length=n) (hn:n<=16) :
  ((List.replicate 17 (Value.int .u8 0)).take 0 ++ (b.take (min n 16)).map cellOf ++ (List.replicate 17 (Value.int .u8 0)).drop (0 + min n 16)).set n (cellOf x)=(Pol.whole b x).map cellOf:=by
 subst hb
 rw [List.take_zero,List.nil_append,Nat.zero_add,List.drop_replicate,Nat.min_eq_left hn,List.take_length,List.set_append_right _ _ (by simp),List.length_map,Nat.sub_self,show 17 - b.length=(16 - b.length) + 1 by omega,List.replicate_succ]
 simp [Pol.whole]
 exact .inr rfl
def fillQ (l:List UInt8) (k:Nat):List Int:=(List.range k).map (Pol.dig l) ++ List.replicate (5 - k) 0
theorem fillQ_length (l:List UInt8) (k:Nat) (h:k<=5):(fillQ l k).length=5:=by simp [fillQ]; omega
theorem fillQ_set (l:List UInt8) (k:Nat) (h:k < 5):(fillQ l k).set k (Pol.dig l k)=fillQ l (k + 1):=by
 unfold fillQ
 rw [List.set_append_right _ _ (by simp),List.length_map,List.length_range,Nat.sub_self,show 5 - k=(5 - (k + 1)) + 1 by omega,List.replicate_succ,List.range_succ]
 simp
theorem fillQ_full (l:List UInt8):fillQ l 5=Pol.digs l:=rfl
theorem le_take_succ (l:List UInt8) (j:Nat) (h:j < l.length):Pol.le (l.take (j + 1))=Pol.le (l.take j) + 256 ^ j * ((l.getD j 0).toNat:Int):=by
 rw [List.take_succ_eq_append_getElem h,Pol.le_append,List.length_take,Nat.min_eq_left (by omega)]
 simp [Pol.le,List.getD_eq_getElem?_getD,List.getElem?_eq_getElem h]
theorem five_step (l:List UInt8) (j s:Nat) (hl:l.length=5) (hj:j < 5) (hs:s=8 * j):bits .or .u64 (Pol.le (l.take j)) (IntKind.u64.wrap (((l.getD j 0).toNat:Int) * 2 ^ s))=Pol.le (l.take (j + 1)):=by
 have hb:=Pol.le_bound (l.take j)
 rw [List.length_take,Nat.min_eq_left (by omega)] at hb
 have hy:=(l.getD j 0).toNat_lt
 rw [le_take_succ l j (by omega)]
 generalize Pol.le (l.take j)=q at *
 generalize (l.getD j 0).toNat=y at *
 subst hs
 have e:IntKind.u64.wrap ((y:Int) * 2 ^ (8 * j))=(y:Int) * 256 ^ j:=by
  have:(2:Int) ^ (8 * j)=256 ^ j:=by rw [Int.pow_mul]; rfl
  rw [this]
  have hc:j=0 ∨ j=1 ∨ j=2 ∨ j=3 ∨ j=4:=by omega
  rcases hc with rfl | rfl | rfl | rfl | rfl <;> simp only [IntKind.wrap,IntKind.bits,IntKind.signed] <;> simp <;> omega
 rw [e]
 have hc:j=0 ∨ j=1 ∨ j=2 ∨ j=3 ∨ j=4:=by omega
 have hq64:q < 18446744073709551616:=by rcases hc with rfl | rfl | rfl | rfl | rfl <;> simp only [Int.reducePow] at hb <;> omega
 have hyj:(y:Int) * 256 ^ j < 18446744073709551616/\0<=(y:Int) * 256 ^ j:=by rcases hc with rfl | rfl | rfl | rfl | rfl <;> simp only [Int.reducePow] <;> omega
 rw [u64_or _ _ hb.1 hq64 hyj.2 hyj.1,Nat.or_comm,nat_join (8 * j)]
 ·rw [Int.mul_comm] at hyj ⊢; omega
 ·rcases hc with rfl | rfl | rfl | rfl | rfl <;> simp only [Int.reducePow,Nat.reduceMul,Nat.reducePow] <;> omega
 ·rcases hc with rfl | rfl | rfl | rfl | rfl <;> simp only [Int.reducePow,Nat.reduceMul,Nat.reducePow] at hb ⊢ <;> omega
theorem five_mask (z:Int) (s i:Nat) (hs:s=2 * i) (h:0<=z/\z < 18446744073709551616):bits .and .u64 (z / 2 ^ s) 67108863=z / 2 ^ (2 * i) % 67108864:=by
 subst hs
 refine and_mask _ ⟨Int.ediv_nonneg h.1 (Int.pow_nonneg (by omega)),?_⟩
 exact Int.lt_of_le_of_lt (Int.ediv_le_self _ h.1) h.2
set_option maxRecDepth 100000 in
set_option maxHeartbeats 2000000 in
theorem pread_any {w:World} {A:Option Addr} {n c:Nat} {b:List UInt8} (x:UInt8) (hr:Rd w A n c b) (hn:n<=16) :
  Calls Tryd.prog 92 #[.slice A n c,.int .u8 (x.toNat:Int)] w fun e w'=>e = .returned (.agg ((Pol.digs (Pol.whole b x)).map wq).toArray)/\Below w.heap.size w w':=by
 have HR:=Lib.hid hr
 have HL:=Lib.hid hr.len
 clear hr
 go_enter Tryd.func92,Tryd.ntmps92
 go_upto_region 2 with (fail)
 obtain ⟨w0,hw0⟩:∃ w0,w0=(w.alloc (Obj.cells zq.toArray 141)).alloc (Obj.cells (List.replicate 17 (.int .u8 0)).toArray 151):=⟨_,rfl⟩
 have B0:Hid (Blk w0 w.heap.size 141 zq):=by unfold Hid; rw [hw0]; exact (Blk.new w _ _).alloc _
 have B1:Hid (Blk w0 (w.heap.size + 1) 151 (List.replicate 17 (.int .u8 0))):=by unfold Hid; rw [hw0]; exact Blk.at_new _ _ _ _ _ rfl (by simp)
 have W0:Hid (Below w.heap.size w w0):=by unfold Hid; rw [hw0]; exact ((Below.refl _ _).alloc (Nat.le_refl _) _).alloc (by simp) _
 have hs0:w.heap.size + 2<=w0.heap.size:=by rw [hw0]; simp
 change Code.wp _ _ _ _ ((w.alloc (Obj.cells zq.toArray 141)).alloc (Obj.cells (List.replicate 17 (.int .u8 0)).toArray 151))
 rw [<- hw0]
 clear hw0
 have R0:=Lib.hid (HR.out.below W0.out)
 obtain ⟨w5,hcopy,hB5,hO5⟩:=copy_into (off:=0) (dLen:=16) (dCap:=17) B1.out R0.out (by simp)
 have Z5:Hid (Blk w5 w.heap.size 141 zq):=(hO5.block _ B0.out.lt (by simp)).trans B0.out
 have W5:Hid (Below w.heap.size w w5):=below_of_only W0.out hO5 (by omega) (by omega)
 have hs5:=hB5.lt
 obtain ⟨cs,hcs⟩:∃ cs,cs=(List.replicate 17 (Value.int .u8 0)).take 0 ++ (b.take (min n 16)).map cellOf ++ (List.replicate 17 (Value.int .u8 0)).drop (0 + min n 16):=⟨_,rfl⟩
 rw [<- hcs] at hB5
 have hcl:cs.length=17:=by rw [hcs]; have:=HL.out; simp; omega
 have HCS:Hid (cs.set n (cellOf x)=(Pol.whole b x).map cellOf):=by unfold Hid; rw [hcs]; exact whole_cells n b x HL.out hn
 have B5:=Lib.hid hB5
 obtain ⟨yn,hyn⟩:∃ y,cs[n]?=some y:=⟨_,List.getElem?_eq_getElem (by omega)⟩
 have c5:w5.cell? ⟨w.heap.size + 1,n,none⟩=some yn:=by rw [hB5.cell]; exact hyn
 have f5:w5.frozen? ⟨w.heap.size + 1,n,none⟩=false:=hB5.frozen _
 rw [Nat.min_eq_left hn] at hcopy
 clear hcs hcl hyn hB5 hO5 B0 B1 W0 R0
 go_upto_region 3 with (fail)
 clear hcopy c5 f5
 obtain ⟨wh,hwh⟩:∃ l,l=Pol.whole b x:=⟨_,rfl⟩
 rw [<- hwh] at HCS
 have HWH:=Lib.hid hwh
 have LW:Hid (wh.length=17):=by unfold Hid; rw [hwh]; exact Pol.whole_length b x (by rw [HL.out]; exact hn)
 have B6:Hid (Blk (w5.setCell ⟨w.heap.size + 1,n,none⟩ (.int .u8 (x.toNat:Int))) (w.heap.size + 1) 151 (wh.map cellOf)):=by unfold Hid; rw [<- HCS.out]; exact B5.out.set_ n _
 have Z6:Hid (Blk (w5.setCell ⟨w.heap.size + 1,n,none⟩ (.int .u8 (x.toNat:Int))) w.heap.size 141 zq):=Z5.out.far (by show _ ≠ w.heap.size + 1; omega) _
 have W6:Hid (Below w.heap.size w (w5.setCell ⟨w.heap.size + 1,n,none⟩ (.int .u8 (x.toNat:Int)))):=W5.out.setCell (by show w.heap.size<=w.heap.size + 1; omega) _
 clear B5 Z5 W5 HCS hwh
 generalize w5.setCell ⟨w.heap.size + 1,n,none⟩ (.int .u8 (x.toNat:Int))=w6 at *
 have hs6:=B6.out.lt
 clear hs5 hs0 HR
 go_upto_region 4 with (fail)
 obtain ⟨w7,hw7⟩:∃ w7,w7=w6.alloc (Obj.cells zq.toArray 141):=⟨_,rfl⟩
 have B7:Hid (Blk w7 (w.heap.size + 1) 151 (wh.map cellOf)):=by unfold Hid; rw [hw7]; exact B6.out.alloc _
 have Z7:Hid (Blk w7 w.heap.size 141 zq):=by unfold Hid; rw [hw7]; exact Z6.out.alloc _
 have N7:Hid (Blk w7 w6.heap.size 141 ((fillQ wh 0).map wq)):=by unfold Hid; rw [hw7]; exact Blk.at_new _ _ _ _ _ rfl rfl
 have W7:Hid (Below w.heap.size w w7):=by unfold Hid; rw [hw7]; exact W6.out.alloc W6.out.size _
 change Code.wp _ _ _ _ (w6.alloc (Obj.cells zq.toArray 141))
 rw [<- hw7]
 obtain ⟨g,hg⟩:∃ g,g=w6.heap.size:=⟨_,rfl⟩
 rw [<- hg] at N7 hs6
 rw [<- hg]
 clear hw7 B6 Z6 W6 hg
 go_wp2_with fail
 go_loopw [16] (fun i wr=>∃ k:Nat,k<=5/\i = .int .i64 k/\Hid (Blk wr (w.heap.size + 1) 151 (wh.map cellOf))/\Hid (Blk wr w.heap.size 141 zq)/\Hid (Blk wr g 141 ((fillQ wh k).map wq))/\Hid (Below w.heap.size w wr)) (fun i _=>5 - (intOf i).toNat)
 case atStart=>exact ⟨0,by omega,rfl,B7,Z7,N7,W7⟩
 case round =>
  clear B7 Z7 N7 W7
  obtain ⟨i,hi,rfl,B1,B0,B2,BW⟩:=hrel
  by_cases hlt:i < 5
  ·have hlb:decide ((i:Int) < 5)=true:=by simp; omega
   obtain ⟨o,ho⟩:∃ o:Nat,o=3 * i:=⟨_,rfl⟩
   have ho3:3 * (i:Int)=(o:Int):=by omega
   have ho12:o<=12:=by omega
   obtain ⟨l,hl⟩:∃ l,l=(wh.drop o).take 5:=⟨_,rfl⟩
   have LL:Hid (l.length=5):=by unfold Hid; rw [hl,List.length_take,List.length_drop,LW.out]; omega
   have HG:Hid (∀ j,j < 5->wr.cell? ⟨w.heap.size + 1,o + j,none⟩=some (.int .u8 ((l.getD j 0).toNat:Int))):=fun j hj=>by
    rw [B1.out.cell,hl]
    have hj2:o + j < wh.length:=by rw [LW.out]; omega
    simp [List.getElem?_map,List.getElem?_eq_getElem hj2,List.getD_eq_getElem?_getD,List.getElem?_take,List.getElem?_drop,hj]
    rfl
   have HF:Hid (Pol.dig wh i=Pol.le (l.take 5) / 2 ^ (2 * i) % 67108864):=by unfold Hid Pol.dig Pol.five; rw [<- ho,<- hl,List.take_of_length_le (by rw [LL.out]; omega)]
   clear hl ho
   have hsl:∀ W,(Instr.sliceAt 151 (.pointer (some ⟨w.heap.size + 1,0,none⟩)) (some (.int .i64 (o:Int))) (some (.int .i64 ((o:Int) + 5))) none).run Tryd.prog W = .ok (.slice (some ⟨w.heap.size + 1,o,none⟩) 5 (17 - o)) W:=fun W=>by
    have:=sliceAt_lh 151 17 Tryd.underlying151 (w.heap.size + 1) 0 o (o + 5) (by omega) (by omega) (by omega) W
    rw [Nat.zero_add,show o + 5 - o=5 by omega] at this
    exact this
   go_upto_region 9 with (fail)
   clear hsl hlb ho3
   obtain ⟨wo,rfl⟩:∃ wo,wo=wr:=⟨_,rfl⟩
   go_loop [8,26] (fun f j=>∃ (k:Nat) (q:Int),k<=5/\j = .int .i64 k/\f = .int .u64 q/\Hid (q=Pol.le (l.take k))) (fun _ j=>5 - (intOf j).toNat)
   case atStart=>exact ⟨0,0,by omega,rfl,rfl,rfl⟩
   case round =>
    obtain ⟨k,q,hk,rfl,rfl,HQ⟩:=hrel
    by_cases hlk:k < 5
    ·have hlb:decide ((k:Int) < 5)=true:=by simp; omega
     obtain ⟨y,hy⟩:∃ y:Nat,y=(l.getD k 0).toNat:=⟨_,rfl⟩
     have c0:wo.cell? ⟨w.heap.size + 1,o + k,none⟩=some (.int .u8 (y:Int)):=by rw [hy]; exact HG.out k hlk
     have hy1:(y:Int) < 256:=by rw [hy]; have:=(l.getD k 0).toNat_lt; omega
     have hy0:(0:Int)<=(y:Int):=by omega
     obtain ⟨s,hs⟩:∃ s:Nat,s=8 * k:=⟨_,rfl⟩
     have hsi:8 * (k:Int)=(s:Int):=by omega
     have hs64:s < 64:=by omega
     have HN:Hid (bits .or .u64 q (IntKind.u64.wrap ((y:Int) * 2 ^ s))=Pol.le (l.take (k + 1))):=by
      unfold Hid
      rw [HQ.out,hy]
      exact five_step l k s LL.out hlk hs
     clear hy hs
     go_wp2_with fail
     go_round
     case rel=>exact ⟨k + 1,_,by omega,by go_num,rfl,HN⟩
     case measure=>simp [intOf]; omega
    ·obtain rfl:k=5:=by omega
     rw [show ((5:Nat):Int)=5 from rfl]
     obtain ⟨s,hs⟩:∃ s:Nat,s=2 * i:=⟨_,rfl⟩
     have hsi:2 * (i:Int)=(s:Int):=by omega
     have hs64:s < 64:=by omega
     have hqb:0<=q/\q < 18446744073709551616:=by
      rw [HQ.out]
      have:=Pol.le_bound (l.take 5)
      rw [List.length_take,LL.out] at this
      simp only [Nat.min_self,Int.reducePow] at this
      omega
     have hmask:bits .and .u64 (q / 2 ^ s) 67108863=Pol.dig wh i:=by rw [five_mask q s i hs hqb,HF.out,HQ.out]
     obtain ⟨d,hd⟩:∃ d,d=Pol.dig wh i:=⟨_,rfl⟩
     rw [<- hd] at hmask
     have D2:Hid (Blk (wo.setCell ⟨g,i,none⟩ (.int .u64 d)) g 141 ((fillQ wh (i + 1)).map wq)):=by
      unfold Hid
      rw [<- fillQ_set wh i hlt,<- hd]
      exact q_put B2.out _
     have c0:=q_at B2.out (j:=i) (by rw [fillQ_length wh i hi]; exact hlt)
     have f0:wo.frozen? ⟨g,i,none⟩=false:=B2.out.frozen _
     have D1:Hid (Blk (wo.setCell ⟨g,i,none⟩ (.int .u64 d)) (w.heap.size + 1) 151 (wh.map cellOf)):=B1.out.far (by show _ ≠ g; omega) _
     have D0:Hid (Blk (wo.setCell ⟨g,i,none⟩ (.int .u64 d)) w.heap.size 141 zq):=B0.out.far (by show _ ≠ g; omega) _
     clear hs hqb hd
     go_wp2_with fail
     go_roundw
     case rel=>exact ⟨i + 1,by omega,by go_num,D1,D0,D2,BW.out.setCell (by show w.heap.size<=g; omega) _⟩
     case measure=>simp [intOf]; omega
  ·obtain rfl:i=5:=by omega
   rw [show ((5:Nat):Int)=5 from rfl]
   obtain ⟨D,hD⟩:∃ D,D=(Pol.digs wh).map wq:=⟨_,rfl⟩
   rw [fillQ_full,<- hD] at B2
   have hDl:D.length=5:=by rw [hD,List.length_map]; rfl
   have ID:Hid ((Tryd.prog.info? 141).map (·.size)=some D.length):=by unfold Hid; rw [hDl]; exact info_num
   have LD:Hid (zq.length=D.length):=by unfold Hid; rw [hDl]; rfl
   have OD:Hid (∀ v ∈ D,v.oneCell'=true):=by unfold Hid; rw [hD]; exact cells_wq _
   have HD:=Lib.hid hD
   clear hDl hD
   go_wp2_with (first
    | ((with_reducible refine load_law rfl 141 (.tmp 6) rfl g 0 rfl D _ Tryd.underlying141 rfl ID.out B2.out.cells ?_))
    | ((with_reducible refine storeGen_law rfl 141 (.tmp 4) (.tmp 47) rfl w.heap.size rfl D rfl 141 zq ID.out LD.out OD.out w.heap.size w B0.out BW.out (Nat.le_refl _) ?_); intro w7 B7 W7))
   exact bodyPost_ret (results_cell_row rfl _ _ w.heap.size 141 D.toArray (0,0) _ rfl B7.out Tryd.underlying141 rfl (by rw [ID.out]; simp)) rfl ⟨by rw [HD.out,HWH.out],W7.out⟩
end Go.Proofs.YtajgjeialbgijaaDoor
namespace Go.Proofs.YtajgjeialbgijaaDoor
set_option linter.unusedVariables false
set_option linter.unusedSimpArgs false
set_option maxRecDepth 100000
open Go.RowKit
theorem and15 (b:UInt8):bits .and .u8 (b.toNat:Int) 15=(b.toNat:Int) % 16:=by
 have hb:=b.toNat_lt
 rw [u8_and _ 15 (by omega) (by omega) (by omega) (by omega)]
 rw [show ((b.toNat:Int)).toNat=b.toNat by omega,show (15:Int).toNat=15 from rfl,nat_mask4]
 omega
set_option maxRecDepth 100000 in
theorem and252_nat:∀ n:Fin 256,n.val &&& 252=n.val - n.val % 4:=by decide
theorem and252 (b:UInt8):bits .and .u8 (b.toNat:Int) 252=(b.toNat:Int) - (b.toNat:Int) % 4:=by
 have hb:=b.toNat_lt
 rw [u8_and _ 252 (by omega) (by omega) (by omega) (by omega)]
 rw [show ((b.toNat:Int)).toNat=b.toNat by omega,show (252:Int).toNat=252 from rfl,and252_nat ⟨b.toNat,hb⟩]
 show ((b.toNat - b.toNat % 4:Nat):Int)=_
 omega
theorem clampTo_length (k:Nat) (l:List UInt8):(Pol.clampTo k l).length=l.length:=by simp [Pol.clampTo]
theorem clampTo_zero (l:List UInt8):Pol.clampTo 0 l=l:=by
 apply List.ext_getElem
 ·simp [Pol.clampTo]
 ·intro i h1 h2
  simp [Pol.clampTo,List.getD_eq_getElem?_getD,List.getElem?_eq_getElem h2]
theorem clampTo_at (k:Nat) (l:List UInt8) (i:Nat) (h:i < l.length):(Pol.clampTo k l).getD i 0=if i < k then Pol.cl i (l.getD i 0) else l.getD i 0:=by
 simp [Pol.clampTo,List.getD_eq_getElem?_getD,h]
theorem clampTo_next (l:List UInt8) (t:Nat) (hl:l.length=16) (ht:t < 4) :
  Pol.clampTo (4 * t + 4) l=if t=0 then (Pol.clampTo (4 * t) l).set (4 * t + 3) (Sha.by8 (((l.getD (4 * t + 3) 0).toNat:Int) % 16))
   else ((Pol.clampTo (4 * t) l).set (4 * t + 3) (Sha.by8 (((l.getD (4 * t + 3) 0).toNat:Int) % 16))).set (4 * t) (Sha.by8 (((l.getD (4 * t) 0).toNat:Int) - ((l.getD (4 * t) 0).toNat:Int) % 4)):=by
 obtain ⟨y0,l0,rfl,g0⟩:=Pol.cons_of hl
 obtain ⟨y1,l1,rfl,g1⟩:=Pol.cons_of g0
 obtain ⟨y2,l2,rfl,g2⟩:=Pol.cons_of g1
 obtain ⟨y3,l3,rfl,g3⟩:=Pol.cons_of g2
 obtain ⟨y4,l4,rfl,g4⟩:=Pol.cons_of g3
 obtain ⟨y5,l5,rfl,g5⟩:=Pol.cons_of g4
 obtain ⟨y6,l6,rfl,g6⟩:=Pol.cons_of g5
 obtain ⟨y7,l7,rfl,g7⟩:=Pol.cons_of g6
 obtain ⟨y8,l8,rfl,g8⟩:=Pol.cons_of g7
 obtain ⟨y9,l9,rfl,g9⟩:=Pol.cons_of g8
 obtain ⟨y10,l10,rfl,g10⟩:=Pol.cons_of g9
 obtain ⟨y11,l11,rfl,g11⟩:=Pol.cons_of g10
 obtain ⟨y12,l12,rfl,g12⟩:=Pol.cons_of g11
 obtain ⟨y13,l13,rfl,g13⟩:=Pol.cons_of g12
 obtain ⟨y14,l14,rfl,g14⟩:=Pol.cons_of g13
 obtain ⟨y15,l15,rfl,g15⟩:=Pol.cons_of g14
 obtain rfl:l15=[]:=List.eq_nil_of_length_eq_zero g15
 have hc:t=0 ∨ t=1 ∨ t=2 ∨ t=3:=by omega
 rcases hc with rfl | rfl | rfl | rfl <;> simp [Pol.clampTo,Pol.cl,List.range,List.range.loop]
theorem bytes_cell {w:World} {g j:Nat} {t:TypeId} {l:List UInt8} (hB:Blk w g t (l.map cellOf)) (hj:j < l.length):w.cell? ⟨g,j,none⟩=some (.int .u8 ((l.getD j 0).toNat:Int)):=by
 rw [hB.cell]
 simp [cellOf,List.getD_eq_getElem?_getD,List.getElem?_eq_getElem hj]
theorem bytes_put {w:World} {g j:Nat} {t:TypeId} {l:List UInt8} (hB:Blk w g t (l.map cellOf)) (x:UInt8):Blk (w.setCell ⟨g,j,none⟩ (.int .u8 (x.toNat:Int))) g t ((l.set j x).map cellOf):=by
 have:=hB.set_ j (cellOf x)
 rw [<- List.map_set] at this
 exact this
set_option maxRecDepth 100000 in
set_option maxHeartbeats 2000000 in
theorem pclamped_any (l:List UInt8) (w:World) (hl:l.length=16) :
  Calls Tryd.prog 93 #[.agg (l.map cellOf).toArray] w fun e w'=>e = .returned (.slice (some ⟨w.heap.size,0,none⟩) 16 16)/\Rd w' (some ⟨w.heap.size,0,none⟩) 16 16 (Pol.clamp l)/\Below w.heap.size w w':=by
 obtain ⟨cl,hcl⟩:∃ c,c=l.map cellOf:=⟨_,rfl⟩
 rw [<- hcl]
 have HC:=Lib.hid hcl
 have LL:=Lib.hid hl
 clear hcl hl
 go_enter Tryd.func93,Tryd.ntmps93
 go_upto_region 1 with (fail)
 obtain ⟨w0,hw0⟩:∃ w0,w0=w.alloc (Obj.cells cl.toArray 128):=⟨_,rfl⟩
 have B0:Hid (Blk w0 w.heap.size 128 ((Pol.clampTo (4 * 0) l).map cellOf)):=by unfold Hid; rw [hw0,Nat.mul_zero,clampTo_zero,<- HC.out]; exact Blk.new w _ _
 have W0:Hid (Below w.heap.size w w0):=by unfold Hid; rw [hw0]; exact (Below.refl _ _).alloc (Nat.le_refl _) _
 change Code.wp _ _ _ _ (w.alloc (Obj.cells cl.toArray 128))
 rw [<- hw0]
 clear hw0
 go_wp2_with fail
 go_loopw [3] (fun i wr=>∃ t k:Nat,t<=4/\i = .int .i64 k/\Hid (k=4 * t)/\Hid (Blk wr w.heap.size 128 ((Pol.clampTo (4 * t) l).map cellOf))/\Hid (Below w.heap.size w wr)) (fun i _=>16 - (intOf i).toNat)
 case atStart=>exact ⟨0,0,by omega,rfl,rfl,B0,W0⟩
 case round =>
  clear B0 W0
  obtain ⟨t,k,ht,rfl,HK,B0,BW⟩:=hrel
  obtain ⟨m,hm⟩:∃ m,m=Pol.clampTo (4 * t) l:=⟨_,rfl⟩
  rw [<- hm] at B0
  have LM:Hid (m.length=16):=by unfold Hid; rw [hm,clampTo_length,LL.out]
  have hk:=HK.out
  by_cases hlt:t < 4
  ·have hlb:decide ((k:Int) < 16)=true:=by simp; omega
   have hk16:k + 3 < 16:=by omega
   obtain ⟨b3,hb3⟩:∃ b,b=m.getD (k + 3) 0:=⟨_,rfl⟩
   have c3:wr.cell? ⟨w.heap.size,k + 3,none⟩=some (.int .u8 (b3.toNat:Int)):=by rw [hb3]; exact bytes_cell B0.out (by rw [LM.out]; exact hk16)
   have f3:wr.frozen? ⟨w.heap.size,k + 3,none⟩=false:=B0.out.frozen _
   have e3:b3=l.getD (4 * t + 3) 0:=by rw [hb3,hm,hk,clampTo_at _ _ _ (by rw [LL.out]; omega),if_neg (by omega)]
   have hand:=and15 b3
   obtain ⟨y3,hy3⟩:∃ y,y=Sha.by8 ((b3.toNat:Int) % 16):=⟨_,rfl⟩
   have hy3':(b3.toNat:Int) % 16=(y3.toNat:Int):=by rw [hy3,Pol.by8_toNat]; omega
   rw [hy3'] at hand
   have B1:Hid (Blk (wr.setCell ⟨w.heap.size,k + 3,none⟩ (.int .u8 (y3.toNat:Int))) w.heap.size 128 ((m.set (k + 3) y3).map cellOf)):=bytes_put B0.out y3
   have W1:Hid (Below w.heap.size w (wr.setCell ⟨w.heap.size,k + 3,none⟩ (.int .u8 (y3.toNat:Int)))):=BW.out.setCell (Nat.le_refl _) _
   have HN:=Lib.hid (clampTo_next l t LL.out hlt)
   rw [<- hm,<- e3,<- hy3,<- hk] at HN
   clear e3 hy3 hy3' hb3
   by_cases h0:t=0
   ·have hk0:decide ((k:Int) > 0)=false:=by simp; omega
    have HN':Hid (Pol.clampTo (4 * (t + 1)) l=m.set (k + 3) y3):=by unfold Hid; rw [show 4 * (t + 1)=k + 4 by omega,HN.out,if_pos h0]
    have D1:Hid (Blk (wr.setCell ⟨w.heap.size,k + 3,none⟩ (.int .u8 (y3.toNat:Int))) w.heap.size 128 ((Pol.clampTo (4 * (t + 1)) l).map cellOf)):=by unfold Hid; rw [HN'.out]; exact B1.out
    have HK2:Hid (k + 4=4 * (t + 1)):=by unfold Hid; omega
    obtain ⟨kk,hkk⟩:∃ kk:Nat,kk=k:=⟨_,rfl⟩
    have hkz:k=0:=by omega
    clear hk h0 HN hm hkk
    subst hkz
    go_wp2_with fail
    go_roundw
    case rel=>exact ⟨t + 1,4,by omega,rfl,HK2,D1,W1⟩
    case measure=>simp [intOf]
   ·have hk0:decide ((k:Int) > 0)=true:=by simp; omega
    obtain ⟨b0,hb0⟩:∃ b,b=m.getD k 0:=⟨_,rfl⟩
    have e0:b0=l.getD k 0:=by rw [hb0,hm,hk,clampTo_at _ _ _ (by rw [LL.out]; omega),if_neg (by omega)]
    have hand0:=and252 b0
    obtain ⟨y0,hy0⟩:∃ y,y=Sha.by8 ((b0.toNat:Int) - (b0.toNat:Int) % 4):=⟨_,rfl⟩
    have hy0':(b0.toNat:Int) - (b0.toNat:Int) % 4=(y0.toNat:Int):=by rw [hy0,Pol.by8_toNat]; have:=b0.toNat_lt; omega
    rw [hy0'] at hand0
    have HN':Hid (Pol.clampTo (4 * (t + 1)) l=(m.set (k + 3) y3).set k y0):=by unfold Hid; rw [show 4 * (t + 1)=k + 4 by omega,HN.out,if_neg h0,<- e0,<- hy0]
    have c0:(wr.setCell ⟨w.heap.size,k + 3,none⟩ (.int .u8 (y3.toNat:Int))).cell? ⟨w.heap.size,k,none⟩=some (.int .u8 (b0.toNat:Int)):=by
     rw [bytes_cell B1.out (by rw [List.length_set,LM.out]; omega),hb0]
     simp [List.getD_eq_getElem?_getD,List.getElem?_set]
    have f0:(wr.setCell ⟨w.heap.size,k + 3,none⟩ (.int .u8 (y3.toNat:Int))).frozen? ⟨w.heap.size,k,none⟩=false:=B1.out.frozen _
    have D1:Hid (Blk ((wr.setCell ⟨w.heap.size,k + 3,none⟩ (.int .u8 (y3.toNat:Int))).setCell ⟨w.heap.size,k,none⟩ (.int .u8 (y0.toNat:Int))) w.heap.size 128 ((Pol.clampTo (4 * (t + 1)) l).map cellOf)):=by unfold Hid; rw [HN'.out]; exact bytes_put B1.out y0
    have W2:Hid (Below w.heap.size w ((wr.setCell ⟨w.heap.size,k + 3,none⟩ (.int .u8 (y3.toNat:Int))).setCell ⟨w.heap.size,k,none⟩ (.int .u8 (y0.toNat:Int)))):=W1.out.setCell (Nat.le_refl _) _
    have HK2:Hid (k + 4=4 * (t + 1)):=by unfold Hid; omega
    have hkp:0 < k:=by omega
    clear hk h0 HN hm e0 hy0 hy0' hb0
    go_upto_region 5 with (fail)
    generalize wr.setCell ⟨w.heap.size,k + 3,none⟩ (.int .u8 (y3.toNat:Int))=w1 at *
    clear c3 f3
    go_wp2_with fail
    go_roundw
    case rel=>exact ⟨t + 1,k + 4,by omega,by go_num,HK2,D1,W2⟩
    case measure=>simp [intOf]; omega
  ·obtain rfl:t=4:=by omega
   obtain rfl:k=16:=hk
   rw [show ((16:Nat):Int)=16 from rfl]
   have hsl:=fun W=>sliceAt_all 128 16 Tryd.underlying128 w.heap.size 0 W
   have HR:Hid (Rd wr (some ⟨w.heap.size,0,none⟩) 16 16 (Pol.clamp l)):=by
    unfold Hid
    refine Rd.of_block B0.out (by rw [Pol.clamp,clampTo_length,LL.out]) (Nat.le_refl _) (by unfold maxLen; omega) (fun j hj=>?_)
    rw [hm,Nat.zero_add,Pol.clamp]
    simp [List.getD_eq_getElem?_getD,List.getElem?_eq_getElem (show j < (Pol.clampTo 16 l).length by rw [clampTo_length,LL.out]; exact hj)]
   clear hm
   go_wp2_with fail
   go_ret
   exact ⟨rfl,HR.out,BW.out⟩
end Go.Proofs.YtajgjeialbgijaaDoor
