import Derived.Test.YtajgjeialbgijaaDoorSAead
import Derived.Test.YtajgjeialbgijaaDoorSBegun4
import Derived.Test.YtajgjeialbgijaaDoorSPhase
import Derived.Test.YtajgjeialbgijaaDoorSTape
namespace Go.Proofs.YtajgjeialbgijaaDoor.Bx
set_option linter.unusedVariables false
set_option linter.unusedSimpArgs false
set_option maxRecDepth 100000
def nonce (n:Int):List UInt8:=List.replicate 4 0 ++ (List.range 8).map fun i=>UInt8.ofNat (n.toNat / 256 ^ (7 - i) % 256)
theorem nonce_length (n:Int):(nonce n).length=12:=by simp [nonce]
structure SNote where
 key:List UInt8
 num:Int
 ad:List UInt8
 b:List UInt8
 out:List UInt8
structure BNote where
 key:List UInt8
 b:List UInt8
 out:List UInt8
def lookS (key:List UInt8) (num:Int) (ad c:List UInt8):List SNote->Option (List UInt8)
 | []=>none
 | n :: l=>if n.key=key/\n.num=num/\n.ad=ad/\n.out=c then some n.b else lookS key num ad c l
def lookB (key b:List UInt8):List BNote->Option (List UInt8)
 | []=>none
 | n :: l=>if n.key=key/\n.b=b then some n.out else lookB key b l
structure St where
 kind:Bool
 seed:Int
 place:Nat
 notes:List SNote
 marks:List BNote
 labels:List BNote
def St.real:St:=⟨false,0,0,[],[],[]⟩
def St.ideal (s:Int) (a:Nat) (S:List SNote) (M L:List BNote):St:=⟨true,s,a,S,M,L⟩
def openBy (key:List UInt8) (num:Int) (ad c:List UInt8) (S:List SNote):List UInt8 × Bool :=
 match lookS key num ad c S with
 | some b=>(b,true)
 | none=>([],false)
def bookOut (s:Int) (a:Nat) (key b:List UInt8) (M:List BNote):List UInt8:=(lookB key b M).getD (Tap.tape s a 32)
def bookAt (a:Nat) (key b:List UInt8) (M:List BNote):Nat:=if (lookB key b M).isSome then a else a + 32
def bookNext (s:Int) (a:Nat) (key b:List UInt8) (M:List BNote):List BNote:=if (lookB key b M).isSome then M else M ++ [⟨key,b,Tap.tape s a 32⟩]
def Good (M:List BNote):Prop:=∀ n ∈ M,n.out.length=32
theorem lookB_length {key b h:List UInt8}:∀ {M:List BNote},Good M->lookB key b M=some h->h.length=32
 | [],_,e=>by simp [lookB] at e
 | n :: l,hg,e=>by
  unfold lookB at e
  split at e
  ·injection e with e; subst e; exact hg n (by simp)
  ·exact lookB_length (fun m hm=>hg m (by simp [hm])) e
theorem bookOut_length (s:Int) (a:Nat) (key b:List UInt8) (M:List BNote) (hg:Good M):(bookOut s a key b M).length=32:=by
 unfold bookOut
 cases e:lookB key b M with
 | none=>simp [Tap.tape_length]
 | some h=>exact lookB_length hg e
theorem bookNext_good (s:Int) (a:Nat) (key b:List UInt8) (M:List BNote) (hg:Good M):Good (bookNext s a key b M):=by
 unfold bookNext
 split
 ·exact hg
 ·intro n hn
  rcases List.mem_append.1 hn with h | h
  ·exact hg n h
  ·simp at h; subst h; simp [Tap.tape_length]
end Go.Proofs.YtajgjeialbgijaaDoor.Bx
namespace Go.Proofs.YtajgjeialbgijaaDoor
set_option linter.unusedVariables false
set_option linter.unusedSimpArgs false
set_option maxRecDepth 100000
open Go.RowKit
structure Fr (M:Nat->Prop) (w w':World):Prop where
 os:w'.os=w.os
 tape:w'.tape=w.tape
 output:w'.output=w.output
 size:w.heap.size<=w'.heap.size
 block:∀ i:Nat,i < w.heap.size->¬ M i->w'.heap[i]?=w.heap[i]?
theorem Fr.below {M:Nat->Prop} {B:Nat} {a w w':World} (h:Fr M w w') (hb:Below B a w) (hM:∀ b,M b->B<=b) (hB:B<=w.heap.size):Below B a w' :=
 ⟨h.os.trans hb.os,h.tape.trans hb.tape,h.output.trans hb.output,Nat.le_trans hb.size h.size,fun i hi=>(h.block i (by omega) (fun hm=>by have:=hM i hm; omega)).trans (hb.block i hi)⟩
theorem Fr.blk {M:Nat->Prop} {w w':World} {g:Nat} {t:TypeId} {cs:List Value} (h:Fr M w w') (hb:Blk w g t cs) (hM:¬ M g):Blk w' g t cs:=(h.block g hb.lt hM).trans hb
theorem Fr.rd {M:Nat->Prop} {w w':World} {A:Option Addr} {n c:Nat} {l:List UInt8} (h:Fr M w w') (hr:Rd w A n c l) (hM:∀ x,A=some x->0 < n->¬ M x.block):Rd w' A n c l :=
 hr.keep h.size fun b off e h0 hb'=>h.block b hb' (hM _ e h0)
abbrev BxP:Type:=World->Nat->Bx.St->(Nat->Prop)->Prop
def Off (M:Nat->Prop) (A:Option Addr) (n:Nat):Prop:=∀ x,A=some x->0 < n->¬ M x.block
theorem Off.none_ (M:Nat->Prop) (n:Nat):Off M none n:=fun x hx=>by cases hx
def RetS (P:BxP) (w:World) (g:Nat) (M:Nat->Prop) (out:List UInt8) (st:Bx.St) (e:Ending) (w':World):Prop :=
 ∃ A c M',e = .returned (.slice A out.length c)/\Rd w' A out.length c out/\P w' g st M'/\Fr M w w'/\(∀ b,M' b->M b ∨ w.heap.size<=b)/\∀ x,A=some x->w.heap.size<=x.block/\¬ M' x.block
def RetSR (w:World) (out:List UInt8) (e:Ending) (w':World):Prop :=
 ∃ A c,e = .returned (.slice A out.length c)/\Rd w' A out.length c out/\Below w.heap.size w w'/\∀ x,A=some x->0 < out.length->w.heap.size<=x.block
def RetP (w:World) (r:List UInt8 × Bool) (e:Ending) (w':World):Prop :=
 ∃ A n c,e = .returned (.tuple #[.slice A n c,.bool r.2])/\Rd w' A n c r.1/\Below w.heap.size w w'/\∀ x,A=some x->0 < n->w.heap.size<=x.block
def RetM (P:BxP) (w:World) (g:Nat) (M:Nat->Prop) (out:List UInt8) (st:Bx.St) (e:Ending) (w':World):Prop :=
 ∃ M',e = .returned (.agg (out.map cellOf).toArray)/\P w' g st M'/\Fr M w w'/\∀ b,M' b->M b ∨ w.heap.size<=b
def RetH (w:World) (out:List UInt8) (e:Ending) (w':World):Prop:=e = .returned (.agg (out.map cellOf).toArray)/\Below w.heap.size w w'
def zero32:List UInt8:=List.replicate 32 0
structure BoxOk (P:BxP):Prop where
 lt:∀ {w:World} {g:Nat} {st:Bx.St} {M:Nat->Prop} {b:Nat},P w g st M->M b->b < w.heap.size
 keep:∀ {w w':World} {g:Nat} {st:Bx.St} {M:Nat->Prop},P w g st M->w.heap.size<=w'.heap.size->(∀ b,M b->w'.heap[b]?=w.heap[b]?)->P w' g st M
 good:∀ {w:World} {g:Nat} {s:Int} {a:Nat} {S:List Bx.SNote} {B L:List Bx.BNote} {M:Nat->Prop},P w g (.ideal s a S B L) M->Bx.Good B/\Bx.Good L
 newR:∀ (w:World) (p:Option Addr),Calls Tryd.prog 17 #[.int .i64 0,.pointer p] w fun e w'=>∃ g M,e = .returned (.pointer (some ⟨g,0,none⟩))/\(∀ b,M b->w.heap.size<=b)/\P w' g .real M/\Below w.heap.size w w'
 newI:∀ {w:World} {t:Nat} {s:Int} {a:Nat},TapeAt w t s a->Calls Tryd.prog 17 #[.int .i64 1,.pointer (some ⟨t,0,none⟩)] w fun e w'=>∃ g M,e = .returned (.pointer (some ⟨g,0,none⟩))/\(∀ b,M b->b=t ∨ w.heap.size<=b)/\P w' g (.ideal s a [] [] []) M/\Below w.heap.size w w'
 newN:∀ (w:World),Calls Tryd.prog 17 #[.int .i64 1,.pointer none] w fun e w'=>e = .returned (.pointer none)/\Below w.heap.size w w'
 newO:∀ (w:World) (m:Int) (p:Option Addr),m ≠ 0->m ≠ 1->Calls Tryd.prog 17 #[.int .i64 m,.pointer p] w fun e w'=>e = .returned (.pointer none)/\Below w.heap.size w w'
 slR:∀ {w:World} {g:Nat} {M:Nat->Prop} {A A':Option Addr} {n c n' c':Nat} {ad b:List UInt8} (key:List UInt8) (num:Int),Gl w->P w g .real M->key.length=32->0<=num->num<=9223372036854775807->Rd w A n c ad->Rd w A' n' c' b->n<=3000->n'<=3000 ->
  Calls Tryd.prog 41 #[.pointer (some ⟨g,0,none⟩),.agg (key.map cellOf).toArray,.int .i64 num,.slice A n c,.slice A' n' c'] w (RetSR w (Ae.sealed key (Bx.nonce num) ad b))
 slI:∀ {w:World} {g:Nat} {M:Nat->Prop} {s:Int} {a:Nat} {S:List Bx.SNote} {B L:List Bx.BNote} {A A':Option Addr} {n c n' c':Nat} {ad b:List UInt8} (key:List UInt8) (num:Int),Gl w->(∀ b,M b->2<=b)->P w g (.ideal s a S B L) M->a<=900000->key.length=32->0<=num->num<=9223372036854775807->Rd w A n c ad->Rd w A' n' c' b->Off M A n->Off M A' n'->n'<=3000 ->
  Calls Tryd.prog 41 #[.pointer (some ⟨g,0,none⟩),.agg (key.map cellOf).toArray,.int .i64 num,.slice A n c,.slice A' n' c'] w (RetS P w g M (Tap.tape s a (n' + 16)) (.ideal s (a + (n' + 16)) (⟨key,num,ad,b,Tap.tape s a (n' + 16)⟩ :: S) B L))
 slN:∀ {w:World} {g:Nat} {st:Bx.St} {M:Nat->Prop} (key:List UInt8) (num:Int) (A A':Option Addr) (n c n' c':Nat),P w g st M->key.length=32->num < 0 ->
  Calls Tryd.prog 41 #[.pointer (some ⟨g,0,none⟩),.agg (key.map cellOf).toArray,.int .i64 num,.slice A n c,.slice A' n' c'] w fun e w'=>e = .returned (.slice none 0 0)/\Below w.heap.size w w'
 slL:∀ {w:World} {g:Nat} {M:Nat->Prop} {s:Int} {a:Nat} {S:List Bx.SNote} {B L:List Bx.BNote} (key:List UInt8) (num:Int) (A A':Option Addr) (n c n' c':Nat),P w g (.ideal s a S B L) M->key.length=32->3000 < n'->n'<=1000000 ->
  Calls Tryd.prog 41 #[.pointer (some ⟨g,0,none⟩),.agg (key.map cellOf).toArray,.int .i64 num,.slice A n c,.slice A' n' c'] w fun e w'=>e = .returned (.slice none 0 0)/\Below w.heap.size w w'
 slZ:∀ (w:World) (key:List UInt8) (num:Int) (A A':Option Addr) (n c n' c':Nat),key.length=32 ->
  Calls Tryd.prog 41 #[.pointer none,.agg (key.map cellOf).toArray,.int .i64 num,.slice A n c,.slice A' n' c'] w fun e w'=>e = .returned (.slice none 0 0)/\Below w.heap.size w w'
 opR:∀ {w:World} {g:Nat} {M:Nat->Prop} {A A':Option Addr} {n c n' c':Nat} {ad b:List UInt8} (key:List UInt8) (num:Int),Gl w->P w g .real M->key.length=32->0<=num->num<=9223372036854775807->Rd w A n c ad->Rd w A' n' c' b->n<=3000->n'<=4000 ->
  Calls Tryd.prog 42 #[.pointer (some ⟨g,0,none⟩),.agg (key.map cellOf).toArray,.int .i64 num,.slice A n c,.slice A' n' c'] w (RetP w (Ae.opened key (Bx.nonce num) ad b,Ae.opens key (Bx.nonce num) ad b))
 opI:∀ {w:World} {g:Nat} {M:Nat->Prop} {s:Int} {a:Nat} {S:List Bx.SNote} {B L:List Bx.BNote} {A A':Option Addr} {n c n' c':Nat} {ad b:List UInt8} (key:List UInt8) (num:Int),Gl w->P w g (.ideal s a S B L) M->key.length=32->0<=num->num<=9223372036854775807->Rd w A n c ad->Rd w A' n' c' b->n<=3000->n'<=4000 ->
  Calls Tryd.prog 42 #[.pointer (some ⟨g,0,none⟩),.agg (key.map cellOf).toArray,.int .i64 num,.slice A n c,.slice A' n' c'] w (RetP w (Bx.openBy key num ad b S))
 opN:∀ {w:World} {g:Nat} {st:Bx.St} {M:Nat->Prop} (key:List UInt8) (num:Int) (A A':Option Addr) (n c n' c':Nat),P w g st M->key.length=32->num < 0 ->
  Calls Tryd.prog 42 #[.pointer (some ⟨g,0,none⟩),.agg (key.map cellOf).toArray,.int .i64 num,.slice A n c,.slice A' n' c'] w fun e w'=>e = .returned (.tuple #[.slice none 0 0,.bool false])/\Below w.heap.size w w'
 opZ:∀ (w:World) (key:List UInt8) (num:Int) (A A':Option Addr) (n c n' c':Nat),key.length=32 ->
  Calls Tryd.prog 42 #[.pointer none,.agg (key.map cellOf).toArray,.int .i64 num,.slice A n c,.slice A' n' c'] w fun e w'=>e = .returned (.tuple #[.slice none 0 0,.bool false])/\Below w.heap.size w w'
 mkR:∀ {w:World} {g:Nat} {M:Nat->Prop} {A:Option Addr} {n c:Nat} {b:List UInt8} (key:List UInt8),Gl w->P w g .real M->key.length=32->Rd w A n c b->n<=100000 ->
  Calls Tryd.prog 25 #[.pointer (some ⟨g,0,none⟩),.agg (key.map cellOf).toArray,.slice A n c] w (RetH w (Sha.hmac key b))
 mkI:∀ {w:World} {g:Nat} {M:Nat->Prop} {s:Int} {a:Nat} {S:List Bx.SNote} {B L:List Bx.BNote} {A:Option Addr} {n c:Nat} {b:List UInt8} (key:List UInt8),Gl w->(∀ b,M b->2<=b)->P w g (.ideal s a S B L) M->a<=900000->key.length=32->Rd w A n c b->Off M A n->n<=100000 ->
  Calls Tryd.prog 25 #[.pointer (some ⟨g,0,none⟩),.agg (key.map cellOf).toArray,.slice A n c] w (RetM P w g M (Bx.bookOut s a key b B) (.ideal s (Bx.bookAt a key b B) S (Bx.bookNext s a key b B) L))
 mkZ:∀ (w:World) (key:List UInt8) (A:Option Addr) (n c:Nat),key.length=32 ->
  Calls Tryd.prog 25 #[.pointer none,.agg (key.map cellOf).toArray,.slice A n c] w (RetH w zero32)
 isR:∀ {w:World} {g:Nat} {M:Nat->Prop} {A:Option Addr} {n c:Nat} {b:List UInt8} (key h:List UInt8),Gl w->P w g .real M->key.length=32->h.length=32->Rd w A n c b->n<=100000 ->
  Calls Tryd.prog 30 #[.pointer (some ⟨g,0,none⟩),.agg (key.map cellOf).toArray,.slice A n c,.agg (h.map cellOf).toArray] w fun e w'=>e = .returned (.bool (decide (Sha.hmac key b=h)))/\Below w.heap.size w w'
 isI:∀ {w:World} {g:Nat} {M:Nat->Prop} {s:Int} {a:Nat} {S:List Bx.SNote} {B L:List Bx.BNote} {A:Option Addr} {n c:Nat} {b:List UInt8} (key h:List UInt8),Gl w->P w g (.ideal s a S B L) M->key.length=32->h.length=32->Rd w A n c b->n<=100000 ->
  Calls Tryd.prog 30 #[.pointer (some ⟨g,0,none⟩),.agg (key.map cellOf).toArray,.slice A n c,.agg (h.map cellOf).toArray] w fun e w'=>e = .returned (.bool (decide (Bx.lookB key b B=some h)))/\Below w.heap.size w w'
 isZ:∀ (w:World) (key h:List UInt8) (A:Option Addr) (n c:Nat),key.length=32->h.length=32 ->
  Calls Tryd.prog 30 #[.pointer none,.agg (key.map cellOf).toArray,.slice A n c,.agg (h.map cellOf).toArray] w fun e w'=>e = .returned (.bool false)/\Below w.heap.size w w'
 lbR:∀ {w:World} {g:Nat} {M:Nat->Prop} (key name:List UInt8),Gl w->P w g .real M->key.length=32->name.length<=100000 ->
  Calls Tryd.prog 45 #[.pointer (some ⟨g,0,none⟩),.agg (key.map cellOf).toArray,.string ⟨name.toArray⟩] w (RetH w (Sha.hmac key (1 :: name)))
 lbI:∀ {w:World} {g:Nat} {M:Nat->Prop} {s:Int} {a:Nat} {S:List Bx.SNote} {B L:List Bx.BNote} (key name:List UInt8),Gl w->(∀ b,M b->2<=b)->P w g (.ideal s a S B L) M->a<=900000->key.length=32->name.length<=100000 ->
  Calls Tryd.prog 45 #[.pointer (some ⟨g,0,none⟩),.agg (key.map cellOf).toArray,.string ⟨name.toArray⟩] w (RetM P w g M (Bx.bookOut s a key name L) (.ideal s (Bx.bookAt a key name L) S B (Bx.bookNext s a key name L)))
 lbZ:∀ (w:World) (key name:List UInt8),key.length=32 ->
  Calls Tryd.prog 45 #[.pointer none,.agg (key.map cellOf).toArray,.string ⟨name.toArray⟩] w (RetH w zero32)
theorem BoxOk.below {P:BxP} (h:BoxOk P) {w w':World} {g:Nat} {st:Bx.St} {M:Nat->Prop} (hp:P w g st M) (hb:Below w.heap.size w w'):P w' g st M:=h.keep hp hb.size fun b hm=>hb.block b (h.lt hp hm)
theorem BoxOk.apart {P:BxP} (h:BoxOk P) {w w':World} {g:Nat} {st:Bx.St} {M M':Nat->Prop} (hp:P w g st M) (hf:Fr M' w w') (hd:∀ b,M b->¬ M' b):P w' g st M:=h.keep hp hf.size fun b hm=>hf.block b (h.lt hp hm) (hd b hm)
set_option maxRecDepth 100000 in
theorem begun4B_any {w:World} (hg:Gl w):Calls Tryd.prog 43 #[] w fun e w'=>e = .returned (.bool true)/\Below w.heap.size w w':=by
 have HG:=Lib.hid hg
 clear hg
 go_enter Tryd.func43,Tryd.ntmps43
 go_wp2_with fail
 refine (begun4_any aeOk HG.out).mono ?_
 rintro e w1 ⟨rfl,hX⟩
 have X1:=Lib.hid hX
 clear hX
 go_wp2_with fail
 go_ret
 exact ⟨rfl,X1.out⟩
set_option maxRecDepth 100000 in
theorem begun7B_any {w:World} (hg:Gl w):Calls Tryd.prog 44 #[] w fun e w'=>e = .returned (.bool true)/\Below w.heap.size w w':=by
 have HG:=Lib.hid hg
 clear hg
 go_enter Tryd.func44,Tryd.ntmps44
 go_wp2_with fail
 refine (begun7_any tapeOk HG.out).mono ?_
 rintro e w1 ⟨rfl,hX⟩
 have X1:=Lib.hid hX
 clear hX
 go_wp2_with fail
 go_ret
 exact ⟨rfl,X1.out⟩
end Go.Proofs.YtajgjeialbgijaaDoor
