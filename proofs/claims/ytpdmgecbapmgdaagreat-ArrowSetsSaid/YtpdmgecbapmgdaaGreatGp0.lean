/- A part of the proof that ArrowSets returns true for every input: no further condition. -/
import Derived.Maps.AppendAt
import Derived.Below
import Derived.Test.YtpdmgecbapmgdaaGreatProg
import Derived.WalkKit
import Derived.WalkSpells
import Derived.WalkLawsBesides
import Derived.OwnWalkIn
import Derived.TacticsInMore
import Derived.RegionIn
import Derived.LoopNIn
import Derived.LoopIn
import Derived.JoinedRecord
import Derived.Lib.Hide
import Derived.Laws.EntriesVeiled
import Derived.Deep.AppendLies
import Derived.Laws.OwnMore
set_option linter.unusedSimpArgs false
set_option linter.unusedVariables false
set_option maxHeartbeats 400000
namespace Go.Proofs.YtpdmgecbapmgdaaGreat
section
open Go.RowKit
theorem yka{w:World}{base:Nat}{e:TypeId}{size g n n' cap:Nat}{xs ys:List Value}(hx:xs.length=n*size)(hn:n≤n')(h:w.ownsRow base e size (.slice (some ⟨g,0,none⟩) n' cap) n' (xs++ys)):w.ownsRow base e size (.slice (some ⟨g,0,none⟩) n cap) n xs:=by
 obtain⟨h1,⟨h2,_⟩|⟨g',cap',cur,h2,hb,hg,hc,hm,hs,ht⟩⟩:=h
 ·cases h2
 ·cases h2;refine⟨hx,.inr ⟨g,cap,cur,rfl,hb,hg,by omega,hm,hs,?_⟩⟩;have hle:n*size≤n'*size:=Nat.mul_le_mul_right _ hn
  calc cur.toList.take (n*size)=(cur.toList.take (n'*size)).take (n*size):=by rw[List.take_take,Nat.min_eq_left hle]
   _=xs:=by rw[ht,←hx];exact List.take_left
theorem zja{w w':World}{base:Nat}{e:TypeId}{size n:Nat}{v:Value}{xs:List Value}(h:w.ownsRow base e size v n xs)(hb:∀ g,v.ownBlock=some g→w'.heap[g]? = w.heap[g]?):w'.ownsRow base e size v n xs:=by
 obtain⟨h1,h2|⟨g,cap,cur,rfl,hbg,hg,hc,hm,hs,ht⟩⟩:=h
 ·exact⟨h1,.inl h2⟩
 ·exact⟨h1,.inr ⟨g,cap,cur,rfl,hbg,(hb g rfl).trans hg,hc,hm,hs,ht⟩⟩
def Lies(w w':World)(n k:Nat)(v v':Value):Prop:=
 (∃ g cap,v=.slice (some ⟨g,0,none⟩) n cap∧v'=.slice (some ⟨g,0,none⟩) (n+k) cap)∨(v'.ownBlock=some w.heap.size∧w.grownBy w' none)
section
variable {P:Program}(w:World)
theorem run_append_split(base:Nat)(t ty e:TypeId)(i:TypeInfo)(z:Value)(size bytes:Nat)(ht:P.underlying t=some (.slice e))(hi:P.info? e=some i)(hz:i.zero=some z)
  (hsize:i.size=size) (hby:i.bytes=bytes) (hzs:z.cells.size=size) (hsz:0<size)
  (v:Value) (n:Nat) (xs:List Value) (hown:w.ownsRow base e size v n xs)
  (a:Addr) (m c:Nat) (news:List Value) (hl:news.length=m*size) (hm0:0<m) (hnews:∀ j u,news[j]? = some u→w.cell? (a.add j)=some u) (h1:∀ u∈news,u.oneCell'=true)
  (h63:n+m≤maxLen) (hbytes:(n+m)*bytes≤140737488355328) (hbase:base≤w.heap.size) :
  ∃ v' w',(Builtin.append_ #[t,t] ty #[v,.slice (some a) m c]).run P w=.ok v' w'∧w'.ownsRow base e size v' (n+m) (xs++news)∧w'.ownsRow base e size v n xs∧w.grownBy w' v.ownBlock∧Lies w w' n m v v':=by
 subst hsize;subst hby;have hlen:(xs++news).length=(n+m)*i.size:=by rw[List.length_append,hown.1,hl,Nat.add_mul]
 have grown:∀(old:Nat),old<n+m→∀(row:Option Nat),
   (w.drew.alloc (.cells (xs.toArray++news.toArray++Builtin.zeroCells z.cells (grownCap w (n+m) old e-(n+m))) e)).ownsRow base e i.size
    (.slice (some ⟨w.heap.size,0,none⟩) (n+m) (grownCap w (n+m) old e)) (n+m) (xs++news) ∧
   w.grownBy (w.drew.alloc (.cells (xs.toArray++news.toArray++Builtin.zeroCells z.cells (grownCap w (n+m) old e-(n+m))) e)) row:=by
  intro old ho row;have hge:=grownCap_ge w (n+m) old e;have hcm:grownCap w (n+m) old e≤maxLen:=grownCap_le_maxLen w (n+m) old e h63;refine⟨⟨hlen,.inr ⟨w.heap.size,_,_,rfl,hbase,heap_alloc_new w.drew _,hge,hcm,?_,?_⟩⟩,⟨rfl,rfl,rfl,by simp,fun k hk _=>(by show(w.heap.push _)[k]? = _;rw[Array.getElem?_push,if_neg (Nat.ne_of_lt hk)])⟩⟩
  ·simp only[Array.size_append,List.size_toArray,size_zeroCells,hzs,hown.1,hl,←Nat.add_mul]
   congr 1
   omega
  ·simp only[Array.toList_append,List.append_assoc];rw[←List.append_assoc,←hlen];exact List.take_left
 have hown0:=hown;rcases hown.2 with⟨rfl,rfl⟩|⟨g,cap,cur,rfl,hbg,hg,hnc,hcm,hcs,htake⟩
 ·have hx:xs=[]:=List.eq_nil_of_length_eq_zero (by simpa using hown.1);subst hx;have hr:=run_append_nil (P:=P) w t ty e i z ht hi hz a m c news hl hnews (by omega) (by simp only[maxLen] at h63;omega) (by have hb:=hbytes;simp only[Nat.zero_add] at hb;omega);have hgr:=grown 0 (by omega) (Value.ownBlock (.slice none 0 0));have hgr0:=grown 0 (by omega) none;simp only[Nat.zero_add,List.nil_append,Array.empty_append] at hgr hgr0 ⊢;exact⟨_,_,hr,hgr.1,World.ownsRow_nil _ _ _ _,hgr.2,.inr ⟨rfl,hgr0.2⟩⟩
 ·by_cases hroom:n+m≤cap
  ·have hfit:n*i.size+news.length≤cur.size:=by rw[hl,hcs,←Nat.add_mul];exact Nat.mul_le_mul_right _ hroom
   have hr:=run_append_room (P:=P) w t ty e i ht hi g n cap cur hg a m c news hl hnews h1 hroom hfit;obtain⟨w',hr',hnew,hgr⟩:∃ w',(Builtin.append_ #[t,t] ty #[.slice (some ⟨g,0,none⟩) n cap,.slice (some a) m c]).run P w=.ok (.slice (some ⟨g,0,none⟩) (n+m) cap) w'∧w'.ownsRow base e i.size (.slice (some ⟨g,0,none⟩) (n+m) cap) (n+m) (xs++news)∧w.grownBy w' (some g):=by
    refine⟨_,hr,⟨hlen,.inr ⟨g,cap,_,rfl,hbg,setRow_heap w g cur _ e _ hg,hroom,hcm,?_,?_⟩⟩,⟨rfl,rfl,rfl,by simp,fun k _ hk=>setRow_other w g k _ (fun e=>hk (by simp[e]))⟩⟩
    ·simp only[List.size_toArray,List.length_append,List.length_take,List.length_drop,Array.length_toList];omega
    ·rw[htake,←hlen];exact List.take_left
   exact⟨_,_,hr',hnew,yka hown.1 (by omega) hnew,hgr,.inl ⟨g,cap,rfl,rfl⟩⟩
  ·have holds:∀ j u,xs[j]? = some u→w.cell? ((⟨g,0,none⟩:Addr).add j)=some u:=hown.cells (g:=g) rfl;have hr:=run_append_grow (P:=P) w t ty e i z ht hi hz ⟨g,0,none⟩ n cap xs hown.1 holds a m c news hl hnews (by omega) (by simp only[maxLen] at h63;omega) (growslice_fits (by omega) hbytes);have hgr:=grown cap (by omega) (Value.ownBlock (.slice (some ⟨g,0,none⟩) n cap));have hgr0:=grown cap (by omega) none;refine⟨_,_,hr,hgr.1,zja hown0 fun g' e'=>?_,hgr.2,.inr ⟨rfl,hgr0.2⟩⟩;cases e';exact hgr0.2.block g (Array.getElem?_eq_some_iff.1 hg).1 (fun e=>by cases e)
end
end
section
open Go.RowKit
abbrev Fc:Fence:=Fence.list [7,33,34,15,13,18,55,56,57,58,59,62,63,64,65,66,77,96,97,98,99,100,101,102,103,104,105,106,107,108,109,110,124,138,78,159,160,161,125,172,3,5,6,8,16,17,19,20,21,30,31,32,35,36,37,38,39,40,41,43,60,61,67,75,76,79,80,81,82,83,84,111,123,22,25,28,68,71,72,73,112,114,115,116,117,118,119,120,121,137,139,140,141,142,157,158,23,24,26,27,29,69,70,74,113,122,4,9,10,11,12,42,44,45] none
def inB(n l h:Int):Bool:=decide (l≤n∧n≤h)
theorem zYa(n l h:Int)(w:World):CallsIn Fc 0 Tryz.prog 62 #[.int .i64 n,.int .i64 l,.int .i64 h] w fun e w'=>e=.returned (.bool (inB n l h))∧w=w':=by
 by_cases h1:l≤n
 ·by_cases h2:n≤h
  ·gi_enter Tryz.func62,Tryz.ntmps62;gi_wp2;go_ret;exact⟨by simp[inB,h1,h2],rfl⟩
  ·gi_enter Tryz.func62,Tryz.ntmps62;gi_wp2;go_ret;exact⟨by simp[inB,h1,h2],rfl⟩
 ·gi_enter Tryz.func62,Tryz.ntmps62;gi_wp2;go_ret;exact⟨by simp[inB];omega,rfl⟩
def letterB(c:UInt8):Bool:=decide (97≤(c.toNat:Int)∧(c.toNat:Int)≤122)
def digitB(c:UInt8):Bool:=decide (48≤(c.toNat:Int)∧(c.toNat:Int)≤57)
theorem zgb(c:UInt8)(w:World):CallsIn Fc 0 Tryz.prog 103 #[.int .u8 c.toNat] w fun e w'=>e=.returned (.bool (letterB c))∧w=w':=by
 by_cases h1:97≤(c.toNat:Int)
 ·by_cases h2:(c.toNat:Int)≤122
  ·gi_enter Tryz.func103,Tryz.ntmps103;gi_wp2;go_ret;exact⟨by simp[letterB,h1,h2],rfl⟩
  ·gi_enter Tryz.func103,Tryz.ntmps103;gi_wp2;go_ret;exact⟨by simp[letterB,h1,h2],rfl⟩
 ·gi_enter Tryz.func103,Tryz.ntmps103;gi_wp2;go_ret;exact⟨by simp[letterB];omega,rfl⟩
theorem yYa(c:UInt8)(w:World):CallsIn Fc 0 Tryz.prog 104 #[.int .u8 c.toNat] w fun e w'=>e=.returned (.bool (digitB c))∧w=w':=by
 by_cases h1:48≤(c.toNat:Int)
 ·by_cases h2:(c.toNat:Int)≤57
  ·gi_enter Tryz.func104,Tryz.ntmps104;gi_wp2;go_ret;exact⟨by simp[digitB,h1,h2],rfl⟩
  ·gi_enter Tryz.func104,Tryz.ntmps104;gi_wp2;go_ret;exact⟨by simp[digitB,h1,h2],rfl⟩
 ·gi_enter Tryz.func104,Tryz.ntmps104;gi_wp2;go_ret;exact⟨by simp[digitB];omega,rfl⟩
def insideB(a b l h:Int):Bool:=inB a l h&&inB b l h&&decide (a≤b)
theorem yK(a b l h:Int)(w:World):CallsIn Fc 0 Tryz.prog 64 #[.agg #[.int .i64 a,.int .i64 b],.int .i64 l,.int .i64 h] w fun e w'=>e=.returned (.bool (insideB a b l h))∧Below w.heap.size w w':=by
 have hb:Below w.heap.size w (w.alloc (.cells #[.int .i64 a,.int .i64 b] 52)):=(Below.refl _ _).alloc (Nat.le_refl _) _;cases h1:inB a l h with
 |false=>
  gi_enter Tryz.func64,Tryz.ntmps64
  gi_wp2_with (gi_at_call 62;refine(zYa _ _ _ _).mono ?_;rintro e w' ⟨rfl,rfl⟩)
  go_ret;exact⟨by simp[insideB,h1],hb⟩
 |true=>
  cases h2:inB b l h with
  |false=>
   gi_enter Tryz.func64,Tryz.ntmps64
   gi_wp2_with (gi_at_call 62;refine(zYa _ _ _ _).mono ?_;rintro e w' ⟨rfl,rfl⟩)
   go_ret;exact⟨by simp[insideB,h1,h2],hb⟩
  |true=>
   gi_enter Tryz.func64,Tryz.ntmps64
   gi_wp2_with (gi_at_call 62;refine(zYa _ _ _ _).mono ?_;rintro e w' ⟨rfl,rfl⟩)
   go_ret;exact⟨by simp[insideB,h1,h2],hb⟩
end
section
open Go.RowKit
structure ye(s:ByteArray):Prop where
 least:1≤s.size
 most:s.size≤12
 first:∀ h:0<s.size,letterB s[0]=true
 rest:∀(i:Nat) (h:i<s.size),letterB s[i]=true∨digitB s[i]=true
end
section
open Go.RowKit
theorem letter_int{c:UInt8}(h:letterB c=true):97≤(c.toNat:Int)∧(c.toNat:Int)≤122:=by simpa[letterB] using h
theorem digit_int{c:UInt8}(h:digitB c=true):48≤(c.toNat:Int)∧(c.toNat:Int)≤57:=by simpa[digitB] using h
def zya(w:World)(e:Ending)(w':World):Prop:=e=.returned (.int .i64 0)∧Below w.heap.size w w'
theorem zNb(w:World)(o:Obj):(w.alloc o).heap[w.heap.size]? = some o:=by show(w.heap.push o)[w.heap.size]? = some o;simp
theorem zhb{w:World}{o:Obj}{n:Nat}(h:n=w.heap.size):(w.alloc o).heap[n]? = some o:=h▸zNb w o
theorem zsb{w:World}{o:Obj}{i:Nat}{x:Obj}(h:w.heap[i]? = some x):(w.alloc o).heap[i]? = some x:=by show(w.heap.push o)[i]? = some x;have hi:i<w.heap.size:=(Array.getElem?_eq_some_iff.1 h).1;rw[Array.getElem?_push_lt hi,←h];simp[hi]
def IntAt(w:World)(p:Nat)(n:Int):Prop:=w.heap[p]? = some (.cells #[.int .i64 n] 3 (0,0))
def zI(w:World)(p:Nat)(a b:Int):Prop:=w.heap[p]? = some (.cells #[.int .i64 a,.int .i64 b] 52 (0,0))
theorem IntAt.cell{w:World}{p:Nat}{n:Int}(h:IntAt w p n):w.cell? ⟨p,0,none⟩=some (.int .i64 n):=by unfold IntAt at h;simp[World.cell?,h]
theorem zI.cell{w:World}{p:Nat}{a b:Int}(h:zI w p a b):w.cell? ⟨p,0,none⟩=some (.int .i64 a)∧w.cell? ⟨p,1,none⟩=some (.int .i64 b):=by unfold zI at h;simp[World.cell?,h]
def Lim(v:Value)(n l m:Int)(w:World):Prop:=
 ∃ p q r:Nat,v=.func (.func 124) #[] #[.pointer (some ⟨p,0,none⟩),.pointer (some ⟨q,0,none⟩),.pointer (some ⟨r,0,none⟩)]∧IntAt w p n∧IntAt w q l∧IntAt w r m
def HandsLimits(n l m:Int)(w:World)(e:Ending)(w':World):Prop:=∃ v,e=.returned v∧Lim v n l m w'∧Below w.heap.size w w'
theorem yJ(n l m:Int)(w:World):CallsIn Fc 0 Tryz.prog 77 #[.int .i64 n,.int .i64 l,.int .i64 m] w (HandsLimits n l m w):=by
 gi_enter Tryz.func77,Tryz.ntmps77;gi_wp2;go_ret;exact⟨_,rfl,⟨_,_,_,rfl,zsb (zsb (zNb _ _)),zsb (zhb (by simp)),zhb (by simp)⟩,
  (((Below.refl _ _).alloc (Nat.le_refl _) _).alloc (by simp) _).alloc (by simp;omega) _⟩
def Spn(v:Value)(a b l m:Int)(w:World):Prop:=
 ∃ p q r:Nat,v=.func (.func 125) #[] #[.pointer (some ⟨p,0,none⟩),.pointer (some ⟨q,0,none⟩),.pointer (some ⟨r,0,none⟩)]∧zI w p a b∧IntAt w q l∧IntAt w r m
def HandsSpan(a b l m:Int)(w:World)(e:Ending)(w':World):Prop:=∃ v,e=.returned v∧Spn v a b l m w'∧Below w.heap.size w w'
theorem yq(a b l m:Int)(w:World):CallsIn Fc 0 Tryz.prog 78 #[.agg #[.int .i64 a,.int .i64 b],.int .i64 l,.int .i64 m] w (HandsSpan a b l m w):=by
 gi_enter Tryz.func78,Tryz.ntmps78;gi_wp2;go_ret;exact⟨_,rfl,⟨_,_,_,rfl,zsb (zsb (zNb _ _)),zsb (zhb (by simp)),zhb (by simp)⟩,
  (((Below.refl _ _).alloc (Nat.le_refl _) _).alloc (by simp) _).alloc (by simp;omega) _⟩
def measuresV:Array Value:=#[.func (.func 105) #[] #[],.func (.func 106) #[] #[],.func (.func 107) #[] #[],.func (.func 108) #[] #[],.func (.func 109) #[] #[],.func (.func 110) #[] #[]]
def HandsMeasures(w:World)(e:Ending)(w':World):Prop:=e=.returned (.slice (some ⟨w.heap.size,0,none⟩) 3 3)∧w'=w.alloc (.cells measuresV 119)
theorem yE(w:World):CallsIn Fc 0 Tryz.prog 65 #[] w (HandsMeasures w):=by gi_enter Tryz.func65,Tryz.ntmps65;gi_wp2;go_ret;exact⟨rfl,rfl⟩
theorem zAb(b o:Nat)(w:World):CallsIn Fc 0 Tryz.prog 105 #[.pointer (some ⟨b,o,none⟩)] w fun e w'=>e=.returned (.pointer (some ⟨b,o+1,none⟩))∧w=w':=by gi_enter Tryz.func105,Tryz.ntmps105;gi_wp2;go_ret;exact⟨rfl,rfl⟩
theorem zzb(b o:Nat)(w:World):CallsIn Fc 0 Tryz.prog 107 #[.pointer (some ⟨b,o,none⟩)] w fun e w'=>e=.returned (.pointer (some ⟨b,o+3,none⟩))∧w=w':=by gi_enter Tryz.func107,Tryz.ntmps107;gi_wp2;go_ret;exact⟨rfl,rfl⟩
theorem zyb(b o:Nat)(w:World):CallsIn Fc 0 Tryz.prog 109 #[.pointer (some ⟨b,o,none⟩)] w fun e w'=>e=.returned (.pointer (some ⟨b,o+5,none⟩))∧w=w':=by gi_enter Tryz.func109,Tryz.ntmps109;gi_wp2;go_ret;exact⟨rfl,rfl⟩
theorem ywa(a b c d:Int)(w:World):CallsIn Fc 0 Tryz.prog 106 #[.agg #[.int .i64 a,.int .i64 b,.int .i64 c,.int .i64 d]] w fun e w'=>e=.returned (.int .i64 a)∧Below w.heap.size w w':=by gi_enter Tryz.func106,Tryz.ntmps106;gi_wp2;go_ret;exact⟨rfl,(Below.refl _ _).alloc (Nat.le_refl _) _⟩
theorem yva(a b c d:Int)(w:World):CallsIn Fc 0 Tryz.prog 108 #[.agg #[.int .i64 a,.int .i64 b,.int .i64 c,.int .i64 d]] w fun e w'=>e=.returned (.int .i64 b)∧Below w.heap.size w w':=by gi_enter Tryz.func108,Tryz.ntmps108;gi_wp2;go_ret;exact⟨rfl,(Below.refl _ _).alloc (Nat.le_refl _) _⟩
theorem yua(a b c d:Int)(w:World):CallsIn Fc 0 Tryz.prog 110 #[.agg #[.int .i64 a,.int .i64 b,.int .i64 c,.int .i64 d]] w fun e w'=>e=.returned (.int .i64 c)∧Below w.heap.size w w':=by gi_enter Tryz.func110,Tryz.ntmps110;gi_wp2;go_ret;exact⟨rfl,(Below.refl _ _).alloc (Nat.le_refl _) _⟩
end
section
open Go.RowKit
abbrev ptr(b:Nat):Value:=.pointer (some ⟨b,0,none⟩)
theorem Below.old{W w:World}(h:Below W.heap.size W w){a:Addr}{v:Value}(hc:W.cell? a=some v):w.cell? a=some v:=by rw[h.cell (World.block_lt_of_cell? W a hc)];exact hc
end
section
open Go.RowKit
theorem yk{w w':World}(h:Below w.heap.size w w'):w.grownBy w' none:=⟨h.os,h.tape,h.output,h.size,fun k hk _=>h.block k hk⟩
theorem zI.lt{w:World}{p:Nat}{a b:Int}(h:zI w p a b):p<w.heap.size:=(Array.getElem?_eq_some_iff.1 h).1
theorem IntAt.grown{w w':World}{p:Nat}{n:Int}{row:Option Nat}(h:IntAt w p n)(hg:w.grownBy w' row)(hr:∀ g,row=some g→∃ c t fz,w.heap[g]? = some (.cells c t fz)∧t≠3):IntAt w' p n:=by unfold IntAt at h ⊢;rw[hg.block p (Array.getElem?_eq_some_iff.1 h).1 (fun e=>by obtain⟨c,t,fz,h1,h2⟩:=hr p e.symm;rw[h] at h1;cases h1;exact h2 rfl)];exact h
theorem zI.grown{w w':World}{p:Nat}{a b:Int}{row:Option Nat}(h:zI w p a b)(hg:w.grownBy w' row)(hr:∀ g,row=some g→∃ c t fz,w.heap[g]? = some (.cells c t fz)∧t≠52):zI w' p a b:=by unfold zI at h ⊢;rw[hg.block p (Array.getElem?_eq_some_iff.1 h).1 (fun e=>by obtain⟨c,t,fz,h1,h2⟩:=hr p e.symm;rw[h] at h1;cases h1;exact h2 rfl)];exact h
theorem zha{w:World}{base size n:Nat}{e:TypeId}{v:Value}{xs:List Value}(h:w.ownsRow base e size v n xs):∀ g,v.ownBlock=some g→∃ c t fz,w.heap[g]? = some (.cells c t fz)∧t=e:=by
 rcases h.2 with⟨rfl,_⟩|⟨g,cap,cur,rfl,_,hg,_⟩
 ·intro g hg;cases hg
 ·intro g' hg';cases hg';exact⟨_,_,_,hg,rfl⟩
theorem Lim.grown{w w':World}{v:Value}{n l m:Int}{row:Option Nat}(h:Lim v n l m w)(hg:w.grownBy w' row)(hr:∀ g,row=some g→∃ c t fz,w.heap[g]? = some (.cells c t fz)∧t=101):Lim v n l m w':=by
 obtain⟨p,q,r,rfl,h1,h2,h3⟩:=h;have hr':∀ g,row=some g→∃ c t fz,w.heap[g]? = some (.cells c t fz)∧t≠3:=fun g e=>by obtain⟨c,t,fz,a,rfl⟩:=hr g e;exact⟨c,_,fz,a,by decide⟩
 exact⟨p,q,r,rfl,h1.grown hg hr',h2.grown hg hr',h3.grown hg hr'⟩
theorem Spn.grown{w w':World}{v:Value}{a b l m:Int}{row:Option Nat}(h:Spn v a b l m w)(hg:w.grownBy w' row)(hr:∀ g,row=some g→∃ c t fz,w.heap[g]? = some (.cells c t fz)∧t=101):Spn v a b l m w':=by
 obtain⟨p,q,r,rfl,h1,h2,h3⟩:=h;have hr':∀ t',t'≠101→∀ g,row=some g→∃ c t fz,w.heap[g]? = some (.cells c t fz)∧t≠t':=fun t' ht g e=>by obtain⟨c,t,fz,a,rfl⟩:=hr g e;exact⟨c,_,fz,a,fun e=>ht e.symm⟩
 exact⟨p,q,r,rfl,h1.grown hg (hr' 52 (by decide)),h2.grown hg (hr' 3 (by decide)),h3.grown hg (hr' 3 (by decide))⟩
theorem zu{w w':World}{base size n:Nat}{e:TypeId}{v:Value}{xs:List Value}(h:w.ownsRow base e size v n xs)(hb:Below w.heap.size w w'):w'.ownsRow base e size v n xs:=
 h.kept (yk hb) (by cases v.ownBlock<;>simp)
theorem Lim.below{w w':World}{v:Value}{n l m:Int}(h:Lim v n l m w)(hb:Below w.heap.size w w'):Lim v n l m w':=h.grown (yk hb) (fun g e=>by cases e)
theorem Lim.alloc{w:World}{v:Value}{n l m:Int}(h:Lim v n l m w)(o:Obj):Lim v n l m (w.alloc o):=h.below ((Below.refl _ _).alloc (Nat.le_refl _) o)
theorem Spn.below{w w':World}{v:Value}{a b l m:Int}(h:Spn v a b l m w)(hb:Below w.heap.size w w'):Spn v a b l m w':=h.grown (yk hb) (fun g e=>by cases e)
theorem Spn.alloc{w:World}{v:Value}{a b l m:Int}(h:Spn v a b l m w)(o:Obj):Spn v a b l m (w.alloc o):=h.below ((Below.refl _ _).alloc (Nat.le_refl _) o)
theorem zSb{vs:List Value}{k:Nat}{lv:Value}{P:Nat→Value→Prop}(hl:vs.length=k*1)(h:∀ j,j<k→∃ v,vs[j]? = some v∧P j v)(h1:P k lv):∀ j,j<k+1→∃ v,(vs++[lv])[j]? = some v∧P j v:=by
 intro j hj;rcases Nat.lt_succ_iff_lt_or_eq.1 hj with hj|rfl
 ·obtain⟨v,h2,h3⟩:=h j hj;refine⟨v,?_,h3⟩;rw[List.getElem?_append_left (by omega)];exact h2
 ·exact⟨lv,by rw[List.getElem?_append_right (by omega)];simp[hl],h1⟩
theorem u151:Tryz.prog.underlying 151=some (.slice 101):=by kernel_rfl
theorem i101:(Tryz.prog.info? 101).map (fun i=>(i.zero,i.size,i.bytes))=some (some .nilFunc,1,8):=by kernel_rfl
structure yN(rs rl rw many:Int):Prop where
 s0:0≤rs
 s1:rs≤9999
 l0:0≤rl
 l1:rl≤9999
 w0:0≤rw
 w1:rw≤9999
 m0:2≤many
 m1:many≤4
def allowOf(rs rl rw:Int):Nat→Int
 |0=>rs
 |1=>rl
 |_=>rw
end
section
open Go.RowKit
structure Shaft where
 name:ByteArray
 s0:Int
 s1:Int
 l0:Int
 l1:Int
 w0:Int
 w1:Int
structure zKb(w:World)(b p:Nat)(x:Shaft):Prop where
 h0:w.cell? ⟨b,p,none⟩=some (.string x.name)
 h1:w.cell? ⟨b,p+1,none⟩=some (.int .i64 x.s0)
 h2:w.cell? ⟨b,p+2,none⟩=some (.int .i64 x.s1)
 h3:w.cell? ⟨b,p+3,none⟩=some (.int .i64 x.l0)
 h4:w.cell? ⟨b,p+4,none⟩=some (.int .i64 x.l1)
 h5:w.cell? ⟨b,p+5,none⟩=some (.int .i64 x.w0)
 h6:w.cell? ⟨b,p+6,none⟩=some (.int .i64 x.w1)
abbrev yJb(x:Shaft):Value:=.agg #[.string x.name,.int .i64 x.s0,.int .i64 x.s1,.int .i64 x.l0,.int .i64 x.l1,.int .i64 x.w0,.int .i64 x.w1]
def zA(w:World)(A:Option Addr)(n:Nat)(sh:Nat→Shaft):Prop:=∀ k,k<n→∃ b o,A=some ⟨b,o,none⟩∧zKb w b (o+k*7) (sh k)
theorem zKb.below{W w:World}(h:Below W.heap.size W w){b p:Nat}{x:Shaft}(hx:zKb W b p x):zKb w b p x:=
 ⟨Below.old h hx.h0,Below.old h hx.h1,Below.old h hx.h2,Below.old h hx.h3,Below.old h hx.h4,Below.old h hx.h5,Below.old h hx.h6⟩
theorem zA.below{W w:World}(h:Below W.heap.size W w){A:Option Addr}{n:Nat}{sh:Nat→Shaft}(hx:zA W A n sh):zA w A n sh:=fun k hk=>by obtain⟨b,o,rfl,h1⟩:=hx k hk;exact⟨b,o,rfl,h1.below h⟩
theorem zKb.lt{w:World}{b p:Nat}{x:Shaft}(h:zKb w b p x):b<w.heap.size:=World.block_lt_of_cell? w _ h.h0
def yfa(b:Bool)(w:World)(e:Ending)(w':World):Prop:=e=.returned (.bool b)∧Below w.heap.size w w'
theorem yGc(x:Shaft)(q:Nat)(t:ByteArray)(w:World)(hq:w.cell? ⟨q,0,none⟩=some (.string t))(hne:(x.name.toList==t.toList)=false) :
  CallsIn Fc 0 Tryz.prog 160 #[yJb x,ptr q] w (yfa false w):=by
 have hql:q<w.heap.size:=World.block_lt_of_cell? w _ hq;gi_enter Tryz.func160,Tryz.ntmps160;gi_wp2;go_ret;exact⟨rfl,(Below.refl _ _).alloc (Nat.le_refl _) _⟩
def ya(n:Int)(w:World)(e:Ending)(w':World):Prop:=e=.returned (.int .i64 n)∧Below w.heap.size w w'
structure yBb(x:Shaft):Prop where
 name:ye x.name
 s0:0≤x.s0
 s1:x.s0≤x.s1
 s2:x.s1≤9999
 l0:0≤x.l0
 l1:x.l0≤x.l1
 l2:x.l1≤9999
 w0:0≤x.w0
 w1:x.w0≤x.w1
 w2:x.w1≤9999
structure zxa(rs rl rw many:Int)(n:Nat)(sh:Nat→Shaft):Prop where
 rule:yN rs rl rw many
 count:n≤9
 each:∀ k,k<n→yBb (sh k)
 once:∀ j k,j<k→k<n→((sh j).name.toList==(sh k).name.toList)=false
def spanA(x:Shaft):Nat→Int
 |0=>x.s0
 |1=>x.l0
 |_=>x.w0
def spanB(x:Shaft):Nat→Int
 |0=>x.s1
 |1=>x.l1
 |_=>x.w1
end
section
open Go.RowKit
abbrev zga(rs rl rw many:Int)(A:Option Addr)(n c:Nat):Value:=.agg #[.int .i64 rs,.int .i64 rl,.int .i64 rw,.int .i64 many,.slice A n c]
def zca(w:World)(A:Option Addr)(m:Nat)(l:Nat→Int):Prop:=∀ k,k<m→∃ b o,A=some ⟨b,o,none⟩∧w.cell? ⟨b,o+k,none⟩=some (.int .i64 (l k))
theorem zca.below{W w:World}(h:Below W.heap.size W w){A:Option Addr}{n:Nat}{l:Nat→Int}(hx:zca W A n l):zca w A n l:=fun k hk=>by obtain⟨b,o,rfl,h1⟩:=hx k hk;exact⟨b,o,rfl,Below.old h h1⟩
end
section
open Go.RowKit
section
variable {F:Fence}{n:Nat}{P:Program}{ops:Array Oper}{Q:Exit→Act→World→Prop}{md:Region.Mode}
def backB(md:Region.Mode)(ops:Array Oper):Bool:=ops.toList.zipIdx.all fun(o,i)=>o.after.toList.all fun e=>!Region.binds md e || decide (e.on<i)
theorem ready_nil(hb:backB md ops=true){listed:Array Bool}(hr:Region.ready md ops listed=[]):∀ i,i<ops.size→listed.getD i true=true:=by
 intro i
 induction i using Nat.strongRecOn with
 |_ i ih=>
  intro hi;cases hl:listed.getD i true with
  |true=>rfl
  |false=>
   exfalso;have:i∈Region.ready md ops listed:=by
    refine mem_ready.2 ⟨hl,ops[i],by simp[hi],fun e he hbe=>?_⟩;have h1:=List.all_eq_true.1 hb (ops[i],i) (by rw[List.mem_zipIdx_iff_getElem?];simp[hi]);have h2:=List.all_eq_true.1 h1 e (by simpa using he);simp only[hbe,Bool.not_true,Bool.false_or,decide_eq_true_eq] at h2;have h3:=ih e.on h2 (by omega);have hsz:i<listed.size:=by
     rcases Nat.lt_or_ge i listed.size with h|h
     ·exact h
     ·rw[Array.getD_eq_getD_getElem?,Array.getElem?_eq_none h] at hl;simp at hl
    rw[Array.getD_eq_getD_getElem?] at h3 ⊢;rw[Array.getElem?_eq_getElem (by omega)] at h3 ⊢;simpa using h3
   rw[hr] at this;cases this
theorem wpAnyIn_J(hb:backB md ops=true){J:Array Bool→Act→World→Prop}
  (hJ:∀ listed a w i,J listed a w→i∈Region.ready md ops listed→wpOpIn F n P ops Q i (J (listed.setIfInBounds i true)) a w)
  (hE:∀ listed a w,J listed a w→(∀ i,i<ops.size→listed.getD i false=true)→Q .normal a w) :
  ∀(fuel:Nat) (listed:Array Bool) (a:Act) (w:World) (u:List Nat),listed.size=ops.size→J listed a w→u.length≤fuel→(∀ i,i<ops.size→listed.getD i true=false→i∈u)→wpAnyIn F n P md ops Q fuel listed a w:=by
 have conv:∀ listed:Array Bool,listed.size=ops.size→(∀ i,i<ops.size→listed.getD i true=true)→∀ i,i<ops.size→listed.getD i false=true:=by intro listed hs h i hi;have:=h i hi;rw[Array.getD_eq_getD_getElem?] at this ⊢;rw[Array.getElem?_eq_getElem (by omega)] at this ⊢;simpa using this
 intro fuel
 induction fuel with
 |zero=>
  intro listed a w u hs hj hu hc;have hall:∀ i,i<ops.size→listed.getD i true=true:=fun i hi=>by
   cases h:listed.getD i true with
   |true=>rfl
   |false=>have:=hc i hi h;have:=List.length_pos_of_mem this;omega
  refine⟨?_,hE _ _ _ hj (conv _ hs hall)⟩;cases hr:Region.ready md ops listed with
  |nil=>rfl
  |cons i l=>have h1:=mem_ready.1 (hr▸List.mem_cons_self .. : i∈Region.ready md ops listed);obtain⟨h2,o,h3,_⟩:=h1;rw[hall i (Array.getElem?_eq_some_iff.1 h3).1] at h2;cases h2
 |succ fuel ih=>
  intro listed a w u hs hj hu hc;refine⟨fun hr=>hE _ _ _ hj (conv _ hs (ready_nil hb hr)),fun i hi=>?_⟩;have h1:=mem_ready.1 hi;obtain⟨h2,o,h3,_⟩:=h1;have hlt:=(Array.getElem?_eq_some_iff.1 h3).1;have hm:=hc i hlt h2;refine wpOpIn_mono (fun a' w' hj'=>ih _ _ _ (u.erase i) (by simpa using hs) hj' ?_ fun k hk hlk=>?_) (hJ _ _ _ _ hj hi)
  ·rw[List.length_erase_of_mem hm];omega
  ·by_cases e:i=k
   ·subst e;have hsz:i<listed.size:=by
     rcases Nat.lt_or_ge i listed.size with h|h
     ·exact h
     ·rw[Array.getD_eq_getD_getElem?,Array.getElem?_eq_none h] at h2;simp at h2
    rw[Array.getD_eq_getD_getElem?] at hlk;simp[hsz] at hlk
   ·rw[getD_set_ne _ e] at hlk;exact(List.mem_erase_of_ne (fun h=>e h.symm)).2 (hc k hk hlk)
theorem yh{id:Nat}{a:Act}{w:World}(hm:P.follows .mixedOrders=true)(hb:backB .any ops=true){J:Array Bool→Act→World→Prop}
  (h0:J (Array.replicate ops.size false) a {w with drawn:=w.drawn+1})
  (hJ:∀ listed a w i,J listed a w→i∈Region.ready .any ops listed→wpOpIn F n P ops Q i (J (listed.setIfInBounds i true)) a w)
  (hE:∀ listed a w,J listed a w→(∀ i,i<ops.size→listed.getD i false=true)→Q .normal a w):(Code.region id ops true).wpIn F n P Q a w:=
 wpIn_region_any hm (wpAnyIn_J hb hJ hE ops.size _ _ _ (List.range ops.size) (by simp) h0 (by simp) fun i hi _=>List.mem_range.2 hi)
end
end
end Go.Proofs.YtpdmgecbapmgdaaGreat
