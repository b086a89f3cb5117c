/- A part of the proof that ArrowMost returns true for every input: no further condition. -/
import Derived.Test.YtpdmgecbapmgdaaGreatProg
import Derived.WalkKit
import Derived.WalkSpells
import Derived.WalkLawsBesides
import Derived.OwnWalkIn
import Derived.TacticsInMore
import Derived.RegionIn
import Derived.LoopNIn
import Derived.LoopIn
import Derived.JoinedRecord
import Derived.Lib.Hide
import Derived.Laws.EntriesVeiled
import Derived.Deep.AppendLies
import Derived.Laws.OwnMore
set_option linter.unusedVariables false
set_option maxHeartbeats 1000000
set_option maxRecDepth 100000
namespace Go.Proofs.YtpdmgecbapmgdaaGreat
section
open Go.RowKit
abbrev Fc:Fence:=Fence.list [7,33,34,15,13,18,55,56,57,58,59,62,63,64,65,66,77,96,97,98,99,100,101,102,103,104,105,106,107,108,109,110,124,138,78,159,160,161,125,172,3,5,6,8,16,17,19,20,21,30,31,32,35,36,37,38,39,40,41,43,60,61,67,75,76,79,80,81,82,83,84,111,123,22,25,28,68,71,72,73,112,114,115,116,117,118,119,120,121,137,139,140,141,142,157,158,23,24,26,27,29,69,70,74,113,122,4,9,10,11,12,42,44,45] none
def inB(n l h:Int):Bool:=decide (l≤n∧n≤h)
theorem zYa(n l h:Int)(w:World):CallsIn Fc 0 Tryz.prog 62 #[.int .i64 n,.int .i64 l,.int .i64 h] w fun e w'=>e=.returned (.bool (inB n l h))∧w=w':=by
 by_cases h1:l≤n
 ·by_cases h2:n≤h
  ·gi_enter Tryz.func62,Tryz.ntmps62;gi_wp2;go_ret;exact⟨by simp[inB,h1,h2],rfl⟩
  ·gi_enter Tryz.func62,Tryz.ntmps62;gi_wp2;go_ret;exact⟨by simp[inB,h1,h2],rfl⟩
 ·gi_enter Tryz.func62,Tryz.ntmps62;gi_wp2;go_ret;exact⟨by simp[inB];omega,rfl⟩
def letterB(c:UInt8):Bool:=decide (97≤(c.toNat:Int)∧(c.toNat:Int)≤122)
def digitB(c:UInt8):Bool:=decide (48≤(c.toNat:Int)∧(c.toNat:Int)≤57)
theorem zgb(c:UInt8)(w:World):CallsIn Fc 0 Tryz.prog 103 #[.int .u8 c.toNat] w fun e w'=>e=.returned (.bool (letterB c))∧w=w':=by
 by_cases h1:97≤(c.toNat:Int)
 ·by_cases h2:(c.toNat:Int)≤122
  ·gi_enter Tryz.func103,Tryz.ntmps103;gi_wp2;go_ret;exact⟨by simp[letterB,h1,h2],rfl⟩
  ·gi_enter Tryz.func103,Tryz.ntmps103;gi_wp2;go_ret;exact⟨by simp[letterB,h1,h2],rfl⟩
 ·gi_enter Tryz.func103,Tryz.ntmps103;gi_wp2;go_ret;exact⟨by simp[letterB];omega,rfl⟩
theorem yra(c:UInt8)(w:World):CallsIn Fc 0 Tryz.prog 104 #[.int .u8 c.toNat] w fun e w'=>e=.returned (.bool (digitB c))∧w=w':=by
 by_cases h1:48≤(c.toNat:Int)
 ·by_cases h2:(c.toNat:Int)≤57
  ·gi_enter Tryz.func104,Tryz.ntmps104;gi_wp2;go_ret;exact⟨by simp[digitB,h1,h2],rfl⟩
  ·gi_enter Tryz.func104,Tryz.ntmps104;gi_wp2;go_ret;exact⟨by simp[digitB,h1,h2],rfl⟩
 ·gi_enter Tryz.func104,Tryz.ntmps104;gi_wp2;go_ret;exact⟨by simp[digitB];omega,rfl⟩
def insideB(a b l h:Int):Bool:=inB a l h&&inB b l h&&decide (a≤b)
theorem yv(a b l h:Int)(w:World):CallsIn Fc 0 Tryz.prog 64 #[.agg #[.int .i64 a,.int .i64 b],.int .i64 l,.int .i64 h] w fun e w'=>e=.returned (.bool (insideB a b l h))∧Below w.heap.size w w':=by
 have hb:Below w.heap.size w (w.alloc (.cells #[.int .i64 a,.int .i64 b] 52)):=(Below.refl _ _).alloc (Nat.le_refl _) _;cases h1:inB a l h with
 |false=>
  gi_enter Tryz.func64,Tryz.ntmps64
  gi_wp2_with (gi_at_call 62;refine(zYa _ _ _ _).mono ?_;rintro e w' ⟨rfl,rfl⟩)
  go_ret;exact⟨by simp[insideB,h1],hb⟩
 |true=>
  cases h2:inB b l h with
  |false=>
   gi_enter Tryz.func64,Tryz.ntmps64
   gi_wp2_with (gi_at_call 62;refine(zYa _ _ _ _).mono ?_;rintro e w' ⟨rfl,rfl⟩)
   go_ret;exact⟨by simp[insideB,h1,h2],hb⟩
  |true=>
   gi_enter Tryz.func64,Tryz.ntmps64
   gi_wp2_with (gi_at_call 62;refine(zYa _ _ _ _).mono ?_;rintro e w' ⟨rfl,rfl⟩)
   go_ret;exact⟨by simp[insideB,h1,h2],hb⟩
end
section
open Go.RowKit
structure ySb(s:ByteArray):Prop where
 least:1≤s.size
 most:s.size≤12
 first:∀ h:0<s.size,letterB s[0]=true
 rest:∀(i:Nat) (h:i<s.size),letterB s[i]=true∨digitB s[i]=true
def SaysName(s:ByteArray)(w:World)(e:Ending)(w':World):Prop:=∃ b:Bool,e=.returned (.bool b)∧(b=true→ySb s)∧w=w'
theorem isName_any(s:ByteArray)(w:World)(hs:s.size≤maxLen):CallsIn Fc 0 Tryz.prog 63 #[.string s] w (SaysName s w):=by
 unfold maxLen at hs;cases h1:inB s.size 1 12 with
 |false=>
  gi_enter Tryz.func63,Tryz.ntmps63
  gi_wp2_with (gi_at_call 62;refine(zYa _ _ _ _).mono ?_;rintro e w' ⟨rfl,rfl⟩)
  go_ret;exact⟨false,rfl,(fun h=>by cases h),rfl⟩
 |true=>
  have hb:1≤s.size∧s.size≤12:=by simp[inB] at h1;omega
  obtain⟨hb1,hb2⟩:=hb;have h0:0<s.size:=by omega
  cases h2:letterB s[0] with
  |false=>
   gi_enter Tryz.func63,Tryz.ntmps63
   gi_wp2_with (first
    |(gi_at_call 62;refine(zYa _ _ _ _).mono ?_;rintro e w' ⟨rfl,rfl⟩)
    |(gi_at_call 103;refine(zgb _ _).mono ?_;rintro e w' ⟨rfl,rfl⟩))
   go_ret;exact⟨false,rfl,(fun h=>by cases h),rfl⟩
  |true=>
   gi_enter Tryz.func63,Tryz.ntmps63
   gi_wp2_with (first
    |(gi_at_call 62;refine(zYa _ _ _ _).mono ?_;rintro e w' ⟨rfl,rfl⟩)
    |(gi_at_call 103;refine(zgb _ _).mono ?_;rintro e w' ⟨rfl,rfl⟩))
   gi_loop [3] (fun i=>∃ k:Nat,k≤s.size∧i=.int .i64 k∧∀(j:Nat) (h:j<s.size),j<k→letterB s[j]=true∨digitB s[j]=true) (fun i=>s.size-(intOf i).toNat)
   case atStart=>exact⟨0,Nat.zero_le _,rfl,fun j h hj=>by omega⟩
   case round=>
    obtain⟨k,hk,rfl,hall⟩:=hrel;have HA:=Lib.hid hall;clear hall;by_cases hlt:k<s.size
    ·cases h3:letterB s[k] with
     |true=>
      gi_wp2_with (first
       |(gi_at_call 103;refine(zgb _ _).mono ?_;rintro e w' ⟨rfl,rfl⟩)
       |(gi_at_call 104;refine(yra _ _).mono ?_;rintro e w' ⟨rfl,rfl⟩))
      go_round
      case rel=>exact⟨k+1,by omega,by go_num,fun j h hj=>by
       rcases Nat.lt_succ_iff_lt_or_eq.1 hj with hj|rfl
       ·exact HA.out j h hj
       ·exact .inl h3⟩
      case measure=>simp[intOf];omega
     |false=>
      cases h4:digitB s[k] with
      |true=>
       gi_wp2_with (first
        |(gi_at_call 103;refine(zgb _ _).mono ?_;rintro e w' ⟨rfl,rfl⟩)
        |(gi_at_call 104;refine(yra _ _).mono ?_;rintro e w' ⟨rfl,rfl⟩))
       go_round
       case rel=>exact⟨k+1,by omega,by go_num,fun j h hj=>by
        rcases Nat.lt_succ_iff_lt_or_eq.1 hj with hj|rfl
        ·exact HA.out j h hj
        ·exact .inr h4⟩
       case measure=>simp[intOf];omega
      |false=>
       gi_wp2_with (first
        |(gi_at_call 103;refine(zgb _ _).mono ?_;rintro e w' ⟨rfl,rfl⟩)
        |(gi_at_call 104;refine(yra _ _).mono ?_;rintro e w' ⟨rfl,rfl⟩))
       go_ret;exact⟨false,rfl,(fun h=>by cases h),rfl⟩
    ·gi_wp2;go_ret;exact⟨true,rfl,fun _=>⟨hb1,hb2,fun _=>h2,fun i h=>HA.out i h (by omega)⟩,rfl⟩
end
section
open Go.RowKit
def SaysTrue(w:World)(e:Ending)(w':World):Prop:=e=.returned (.bool true)∧w=w'
theorem yR{c:UInt8}(h:letterB c=true):97≤(c.toNat:Int)∧(c.toNat:Int)≤122:=by simpa[letterB] using h
theorem yhb{c:UInt8}(h:digitB c=true):48≤(c.toNat:Int)∧(c.toNat:Int)≤57:=by simpa[digitB] using h
theorem isName2_ok(s:ByteArray)(w:World)(hs:Hid (ySb s)):CallsIn Fc 0 Tryz.prog 159 #[.string s] w (SaysTrue w):=by
 have hb1:=hs.out.least;have hb2:=hs.out.most;gi_enter Tryz.func159,Tryz.ntmps159;gi_wp2
 gi_loop [16] (fun i=>∃ k:Nat,k≤s.size∧i=.int .i64 k) (fun i=>s.size-(intOf i).toNat)
 case atStart=>exact⟨0,Nat.zero_le _,rfl⟩
 case round=>
  obtain⟨k,hk,rfl⟩:=hrel;by_cases hlt:k<s.size
  ·by_cases hl1:97≤(s[k].toNat:Int)
   ·by_cases hl2:(s[k].toNat:Int)≤122
    ·by_cases hd1:48≤(s[k].toNat:Int)
     ·by_cases hd2:(s[k].toNat:Int)≤57
      ·omega
      ·gi_wp2
       go_round
       case rel=>exact⟨k+1,by omega,by go_num⟩
       case measure=>simp[intOf];omega
     ·omega
    ·have:=hs.out.rest k hlt;rcases this with h|h
     ·have:=yR h;omega
     ·have:=yhb h;omega
   ·have hd:48≤(s[k].toNat:Int)∧(s[k].toNat:Int)≤57:=by
     rcases hs.out.rest k hlt with h|h
     ·have:=yR h;omega
     ·exact yhb h
    obtain⟨hd1,hd2⟩:=hd;have hk0:((k:Int)==0)=false:=by
     have:k≠0:=by rintro rfl;have:=yR (hs.out.first hlt);omega
     simp;omega
    gi_wp2
    go_round
    case rel=>exact⟨k+1,by omega,by go_num⟩
    case measure=>simp[intOf];omega
  ·gi_wp2;go_ret;exact⟨rfl,rfl⟩
def zya(w:World)(e:Ending)(w':World):Prop:=e=.returned (.int .i64 0)∧Below w.heap.size w w'
def yI(w:World)(e:Ending)(w':World):Prop:=e=.returned (.int .i64 0)∧w=w'
theorem limits1_ok(n l m:Int)(p q r:Nat)(w:World)(hp:w.cell? ⟨p,0,none⟩=some (.int .i64 n))(hq:w.cell? ⟨q,0,none⟩=some (.int .i64 l))(hr:w.cell? ⟨r,0,none⟩=some (.int .i64 m))(h1:l≤n)(h2:n≤m) :
  CallsIn Fc 0 Tryz.prog 124 #[.pointer (some ⟨p,0,none⟩),.pointer (some ⟨q,0,none⟩),.pointer (some ⟨r,0,none⟩)] w (yI w):=by
 gi_enter Tryz.func124,Tryz.ntmps124;gi_wp2;go_ret;exact⟨rfl,rfl⟩
theorem spanLimits1_ok(a b l m:Int)(p q r:Nat)(w:World)(hp:w.cell? ⟨p,0,none⟩=some (.int .i64 a))(hp1:w.cell? ⟨p,1,none⟩=some (.int .i64 b))(hq:w.cell? ⟨q,0,none⟩=some (.int .i64 l))(hr:w.cell? ⟨r,0,none⟩=some (.int .i64 m))(h1:l≤a)(h2:a≤b)(h3:b≤m) :
  CallsIn Fc 0 Tryz.prog 125 #[.pointer (some ⟨p,0,none⟩),.pointer (some ⟨q,0,none⟩),.pointer (some ⟨r,0,none⟩)] w (yI w):=by
 gi_enter Tryz.func125,Tryz.ntmps125;gi_wp2;go_ret;exact⟨rfl,rfl⟩
theorem zNb(w:World)(o:Obj):(w.alloc o).heap[w.heap.size]? = some o:=by show(w.heap.push o)[w.heap.size]? = some o;simp
theorem zhb{w:World}{o:Obj}{n:Nat}(h:n=w.heap.size):(w.alloc o).heap[n]? = some o:=h▸zNb w o
theorem zsb{w:World}{o:Obj}{i:Nat}{x:Obj}(h:w.heap[i]? = some x):(w.alloc o).heap[i]? = some x:=by show(w.heap.push o)[i]? = some x;have hi:i<w.heap.size:=(Array.getElem?_eq_some_iff.1 h).1;rw[Array.getElem?_push_lt hi,←h];simp[hi]
def IntAt(w:World)(p:Nat)(n:Int):Prop:=w.heap[p]? = some (.cells #[.int .i64 n] 3 (0,0))
def zI(w:World)(p:Nat)(a b:Int):Prop:=w.heap[p]? = some (.cells #[.int .i64 a,.int .i64 b] 52 (0,0))
theorem IntAt.cell{w:World}{p:Nat}{n:Int}(h:IntAt w p n):w.cell? ⟨p,0,none⟩=some (.int .i64 n):=by unfold IntAt at h;simp[World.cell?,h]
theorem zI.cell{w:World}{p:Nat}{a b:Int}(h:zI w p a b):w.cell? ⟨p,0,none⟩=some (.int .i64 a)∧w.cell? ⟨p,1,none⟩=some (.int .i64 b):=by unfold zI at h;simp[World.cell?,h]
def Lim(v:Value)(n l m:Int)(w:World):Prop:=
 ∃ p q r:Nat,v=.func (.func 124) #[] #[.pointer (some ⟨p,0,none⟩),.pointer (some ⟨q,0,none⟩),.pointer (some ⟨r,0,none⟩)]∧IntAt w p n∧IntAt w q l∧IntAt w r m
def HandsLimits(n l m:Int)(w:World)(e:Ending)(w':World):Prop:=∃ v,e=.returned v∧Lim v n l m w'∧Below w.heap.size w w'
theorem yu(n l m:Int)(w:World):CallsIn Fc 0 Tryz.prog 77 #[.int .i64 n,.int .i64 l,.int .i64 m] w (HandsLimits n l m w):=by
 gi_enter Tryz.func77,Tryz.ntmps77;gi_wp2;go_ret;exact⟨_,rfl,⟨_,_,_,rfl,zsb (zsb (zNb _ _)),zsb (zhb (by simp)),zhb (by simp)⟩,
  (((Below.refl _ _).alloc (Nat.le_refl _) _).alloc (by simp) _).alloc (by simp;omega) _⟩
def Spn(v:Value)(a b l m:Int)(w:World):Prop:=
 ∃ p q r:Nat,v=.func (.func 125) #[] #[.pointer (some ⟨p,0,none⟩),.pointer (some ⟨q,0,none⟩),.pointer (some ⟨r,0,none⟩)]∧zI w p a b∧IntAt w q l∧IntAt w r m
def HandsSpan(a b l m:Int)(w:World)(e:Ending)(w':World):Prop:=∃ v,e=.returned v∧Spn v a b l m w'∧Below w.heap.size w w'
theorem yj(a b l m:Int)(w:World):CallsIn Fc 0 Tryz.prog 78 #[.agg #[.int .i64 a,.int .i64 b],.int .i64 l,.int .i64 m] w (HandsSpan a b l m w):=by
 gi_enter Tryz.func78,Tryz.ntmps78;gi_wp2;go_ret;exact⟨_,rfl,⟨_,_,_,rfl,zsb (zsb (zNb _ _)),zsb (zhb (by simp)),zhb (by simp)⟩,
  (((Below.refl _ _).alloc (Nat.le_refl _) _).alloc (by simp) _).alloc (by simp;omega) _⟩
def measuresV:Array Value:=#[.func (.func 105) #[] #[],.func (.func 106) #[] #[],.func (.func 107) #[] #[],.func (.func 108) #[] #[],.func (.func 109) #[] #[],.func (.func 110) #[] #[]]
def HandsMeasures(w:World)(e:Ending)(w':World):Prop:=e=.returned (.slice (some ⟨w.heap.size,0,none⟩) 3 3)∧w'=w.alloc (.cells measuresV 119)
theorem yr(w:World):CallsIn Fc 0 Tryz.prog 65 #[] w (HandsMeasures w):=by gi_enter Tryz.func65,Tryz.ntmps65;gi_wp2;go_ret;exact⟨rfl,rfl⟩
theorem zAb(b o:Nat)(w:World):CallsIn Fc 0 Tryz.prog 105 #[.pointer (some ⟨b,o,none⟩)] w fun e w'=>e=.returned (.pointer (some ⟨b,o+1,none⟩))∧w=w':=by gi_enter Tryz.func105,Tryz.ntmps105;gi_wp2;go_ret;exact⟨rfl,rfl⟩
theorem zzb(b o:Nat)(w:World):CallsIn Fc 0 Tryz.prog 107 #[.pointer (some ⟨b,o,none⟩)] w fun e w'=>e=.returned (.pointer (some ⟨b,o+3,none⟩))∧w=w':=by gi_enter Tryz.func107,Tryz.ntmps107;gi_wp2;go_ret;exact⟨rfl,rfl⟩
theorem zyb(b o:Nat)(w:World):CallsIn Fc 0 Tryz.prog 109 #[.pointer (some ⟨b,o,none⟩)] w fun e w'=>e=.returned (.pointer (some ⟨b,o+5,none⟩))∧w=w':=by gi_enter Tryz.func109,Tryz.ntmps109;gi_wp2;go_ret;exact⟨rfl,rfl⟩
theorem yW(a b c d:Int)(w:World):CallsIn Fc 0 Tryz.prog 106 #[.agg #[.int .i64 a,.int .i64 b,.int .i64 c,.int .i64 d]] w fun e w'=>e=.returned (.int .i64 a)∧Below w.heap.size w w':=by gi_enter Tryz.func106,Tryz.ntmps106;gi_wp2;go_ret;exact⟨rfl,(Below.refl _ _).alloc (Nat.le_refl _) _⟩
theorem yV(a b c d:Int)(w:World):CallsIn Fc 0 Tryz.prog 108 #[.agg #[.int .i64 a,.int .i64 b,.int .i64 c,.int .i64 d]] w fun e w'=>e=.returned (.int .i64 b)∧Below w.heap.size w w':=by gi_enter Tryz.func108,Tryz.ntmps108;gi_wp2;go_ret;exact⟨rfl,(Below.refl _ _).alloc (Nat.le_refl _) _⟩
theorem yU(a b c d:Int)(w:World):CallsIn Fc 0 Tryz.prog 110 #[.agg #[.int .i64 a,.int .i64 b,.int .i64 c,.int .i64 d]] w fun e w'=>e=.returned (.int .i64 c)∧Below w.heap.size w w':=by gi_enter Tryz.func110,Tryz.ntmps110;gi_wp2;go_ret;exact⟨rfl,(Below.refl _ _).alloc (Nat.le_refl _) _⟩
end
section
open Go.RowKit
abbrev ptr(b:Nat):Value:=.pointer (some ⟨b,0,none⟩)
def yJ(v:Value)(w:World):Prop:=
 (∃(f:Nat) (sv:Value),(f=96∨f=97∨f=98∨f=56)∧v=.func (.func f) #[sv] #[]∧∀ w',Below w.heap.size w w'→CallsIn Fc 0 Tryz.prog f #[sv] w' (zya w')) ∨
 (∃(f p q r:Nat),(f=124∨f=125)∧v=.func (.func f) #[] #[ptr p,ptr q,ptr r]∧∀ w',Below w.heap.size w w'→CallsIn Fc 0 Tryz.prog f #[ptr p,ptr q,ptr r] w' (zya w')) ∨
 (∃(p q:Nat),v=.func (.func 99) #[] #[ptr p,ptr q]∧∀ w',Below w.heap.size w w'→CallsIn Fc 0 Tryz.prog 99 #[ptr p,ptr q] w' (zya w'))
theorem Below.old{W w:World}(h:Below W.heap.size W w){a:Addr}{v:Value}(hc:W.cell? a=some v):w.cell? a=some v:=by rw[h.cell (World.block_lt_of_cell? W a hc)];exact hc
theorem yi(b n cap:Nat)(W:World)(hn:n≤100)(hall:Hid (∀ k,k<n→∃ v,W.cell? ⟨b,k,none⟩=some v∧yJ v W)) :
  CallsIn Fc 0 Tryz.prog 55 #[.slice (some ⟨b,0,none⟩) n cap] W (zya W):=by
 gi_enter Tryz.func55,Tryz.ntmps55;gi_wp2
 gi_loopw [8] (fun i wr=>∃ k:Nat,k≤n∧i=.int .i64 k∧Below W.heap.size W wr) (fun i _=>n-(intOf i).toNat)
 case atStart=>exact⟨0,Nat.zero_le _,rfl,Below.refl _ _⟩
 case round=>
  obtain⟨k,hk,rfl,hb⟩:=hrel;by_cases hlt:k<n
  ·obtain⟨v,hv,hf⟩:=hall.out k hlt;have hc:=Below.old hb hv;clear hv;rcases hf with⟨f,sv,hf,rfl,hcall⟩|⟨f,p,q,r,hf,rfl,hcall⟩|⟨p,q,rfl,hcall⟩
   ·have hcall':=hcall _ hb;clear hcall;rcases hf with rfl|rfl|rfl|rfl
    ·gi_wp2_with (gi_at_call 96;refine hcall'.mono ?_;rintro e w' ⟨rfl,hb1⟩)
     go_roundw
     case rel=>exact⟨k+1,by omega,by go_num,hb.trans (hb1.mono hb.size)⟩
     case measure=>simp[intOf];omega
    ·gi_wp2_with (gi_at_call 97;refine hcall'.mono ?_;rintro e w' ⟨rfl,hb1⟩)
     go_roundw
     case rel=>exact⟨k+1,by omega,by go_num,hb.trans (hb1.mono hb.size)⟩
     case measure=>simp[intOf];omega
    ·gi_wp2_with (gi_at_call 98;refine hcall'.mono ?_;rintro e w' ⟨rfl,hb1⟩)
     go_roundw
     case rel=>exact⟨k+1,by omega,by go_num,hb.trans (hb1.mono hb.size)⟩
     case measure=>simp[intOf];omega
    ·gi_wp2_with (gi_at_call 56;refine hcall'.mono ?_;rintro e w' ⟨rfl,hb1⟩)
     go_roundw
     case rel=>exact⟨k+1,by omega,by go_num,hb.trans (hb1.mono hb.size)⟩
     case measure=>simp[intOf];omega
   ·have hcall':=hcall _ hb;clear hcall;rcases hf with rfl|rfl
    ·gi_wp2_with (gi_at_call 124;refine hcall'.mono ?_;rintro e w' ⟨rfl,hb1⟩)
     go_roundw
     case rel=>exact⟨k+1,by omega,by go_num,hb.trans (hb1.mono hb.size)⟩
     case measure=>simp[intOf];omega
    ·gi_wp2_with (gi_at_call 125;refine hcall'.mono ?_;rintro e w' ⟨rfl,hb1⟩)
     go_roundw
     case rel=>exact⟨k+1,by omega,by go_num,hb.trans (hb1.mono hb.size)⟩
     case measure=>simp[intOf];omega
   ·have hcall':=hcall _ hb;clear hcall
    gi_wp2_with (gi_at_call 99;refine hcall'.mono ?_;rintro e w' ⟨rfl,hb1⟩)
    go_roundw
    case rel=>exact⟨k+1,by omega,by go_num,hb.trans (hb1.mono hb.size)⟩
    case measure=>simp[intOf];omega
  ·gi_wp2;go_ret;exact⟨rfl,hb⟩
end
section
open Go.RowKit
theorem yp{w w':World}(h:Below w.heap.size w w'):w.grownBy w' none:=⟨h.os,h.tape,h.output,h.size,fun k hk _=>h.block k hk⟩
theorem zI.lt{w:World}{p:Nat}{a b:Int}(h:zI w p a b):p<w.heap.size:=(Array.getElem?_eq_some_iff.1 h).1
theorem IntAt.grown{w w':World}{p:Nat}{n:Int}{row:Option Nat}(h:IntAt w p n)(hg:w.grownBy w' row)(hr:∀ g,row=some g→∃ c t fz,w.heap[g]? = some (.cells c t fz)∧t≠3):IntAt w' p n:=by unfold IntAt at h ⊢;rw[hg.block p (Array.getElem?_eq_some_iff.1 h).1 (fun e=>by obtain⟨c,t,fz,h1,h2⟩:=hr p e.symm;rw[h] at h1;cases h1;exact h2 rfl)];exact h
theorem zI.grown{w w':World}{p:Nat}{a b:Int}{row:Option Nat}(h:zI w p a b)(hg:w.grownBy w' row)(hr:∀ g,row=some g→∃ c t fz,w.heap[g]? = some (.cells c t fz)∧t≠52):zI w' p a b:=by unfold zI at h ⊢;rw[hg.block p (Array.getElem?_eq_some_iff.1 h).1 (fun e=>by obtain⟨c,t,fz,h1,h2⟩:=hr p e.symm;rw[h] at h1;cases h1;exact h2 rfl)];exact h
theorem zha{w:World}{base size n:Nat}{e:TypeId}{v:Value}{xs:List Value}(h:w.ownsRow base e size v n xs):∀ g,v.ownBlock=some g→∃ c t fz,w.heap[g]? = some (.cells c t fz)∧t=e:=by
 rcases h.2 with⟨rfl,_⟩|⟨g,cap,cur,rfl,_,hg,_⟩
 ·intro g hg;cases hg
 ·intro g' hg';cases hg';exact⟨_,_,_,hg,rfl⟩
theorem Lim.grown{w w':World}{v:Value}{n l m:Int}{row:Option Nat}(h:Lim v n l m w)(hg:w.grownBy w' row)(hr:∀ g,row=some g→∃ c t fz,w.heap[g]? = some (.cells c t fz)∧t=101):Lim v n l m w':=by
 obtain⟨p,q,r,rfl,h1,h2,h3⟩:=h;have hr':∀ g,row=some g→∃ c t fz,w.heap[g]? = some (.cells c t fz)∧t≠3:=fun g e=>by obtain⟨c,t,fz,a,rfl⟩:=hr g e;exact⟨c,_,fz,a,by decide⟩
 exact⟨p,q,r,rfl,h1.grown hg hr',h2.grown hg hr',h3.grown hg hr'⟩
theorem Spn.grown{w w':World}{v:Value}{a b l m:Int}{row:Option Nat}(h:Spn v a b l m w)(hg:w.grownBy w' row)(hr:∀ g,row=some g→∃ c t fz,w.heap[g]? = some (.cells c t fz)∧t=101):Spn v a b l m w':=by
 obtain⟨p,q,r,rfl,h1,h2,h3⟩:=h;have hr':∀ t',t'≠101→∀ g,row=some g→∃ c t fz,w.heap[g]? = some (.cells c t fz)∧t≠t':=fun t' ht g e=>by obtain⟨c,t,fz,a,rfl⟩:=hr g e;exact⟨c,_,fz,a,fun e=>ht e.symm⟩
 exact⟨p,q,r,rfl,h1.grown hg (hr' 52 (by decide)),h2.grown hg (hr' 3 (by decide)),h3.grown hg (hr' 3 (by decide))⟩
theorem yI.fair{w:World}{e:Ending}{w':World}(h:yI w e w'):zya w e w':=by obtain⟨rfl,rfl⟩:=h;exact⟨rfl,Below.refl _ _⟩
theorem Lim.fair{w:World}{v:Value}{n l m:Int}(h:Lim v n l m w)(h1:l≤n)(h2:n≤m):yJ v w:=by obtain⟨p,q,r,rfl,hp,hq,hr⟩:=h;exact .inr (.inl ⟨124,p,q,r,.inl rfl,rfl,fun w' hb=>(limits1_ok n l m p q r w' (Below.old hb hp.cell) (Below.old hb hq.cell) (Below.old hb hr.cell) h1 h2).mono fun _ _ h=>h.fair⟩)
theorem Spn.fair{w:World}{v:Value}{a b l m:Int}(h:Spn v a b l m w)(h1:l≤a)(h2:a≤b)(h3:b≤m):yJ v w:=by obtain⟨p,q,r,rfl,hp,hq,hr⟩:=h;exact .inr (.inl ⟨125,p,q,r,.inr rfl,rfl,fun w' hb=>(spanLimits1_ok a b l m p q r w' (Below.old hb hp.cell.1) (Below.old hb hp.cell.2) (Below.old hb hq.cell) (Below.old hb hr.cell) h1 h2 h3).mono fun _ _ h=>h.fair⟩)
theorem zu{w w':World}{base size n:Nat}{e:TypeId}{v:Value}{xs:List Value}(h:w.ownsRow base e size v n xs)(hb:Below w.heap.size w w'):w'.ownsRow base e size v n xs:=
 h.kept (yp hb) (by cases v.ownBlock<;>simp)
theorem Lim.below{w w':World}{v:Value}{n l m:Int}(h:Lim v n l m w)(hb:Below w.heap.size w w'):Lim v n l m w':=h.grown (yp hb) (fun g e=>by cases e)
theorem Lim.alloc{w:World}{v:Value}{n l m:Int}(h:Lim v n l m w)(o:Obj):Lim v n l m (w.alloc o):=h.below ((Below.refl _ _).alloc (Nat.le_refl _) o)
theorem Spn.below{w w':World}{v:Value}{a b l m:Int}(h:Spn v a b l m w)(hb:Below w.heap.size w w'):Spn v a b l m w':=h.grown (yp hb) (fun g e=>by cases e)
theorem Spn.alloc{w:World}{v:Value}{a b l m:Int}(h:Spn v a b l m w)(o:Obj):Spn v a b l m (w.alloc o):=h.below ((Below.refl _ _).alloc (Nat.le_refl _) o)
theorem zSb{vs:List Value}{k:Nat}{lv:Value}{P:Nat→Value→Prop}(hl:vs.length=k*1)(h:∀ j,j<k→∃ v,vs[j]? = some v∧P j v)(h1:P k lv):∀ j,j<k+1→∃ v,(vs++[lv])[j]? = some v∧P j v:=by
 intro j hj;rcases Nat.lt_succ_iff_lt_or_eq.1 hj with hj|rfl
 ·obtain⟨v,h2,h3⟩:=h j hj;refine⟨v,?_,h3⟩;rw[List.getElem?_append_left (by omega)];exact h2
 ·exact⟨lv,by rw[List.getElem?_append_right (by omega)];simp[hl],h1⟩
theorem u151:Tryz.prog.underlying 151=some (.slice 101):=by kernel_rfl
theorem i101:(Tryz.prog.info? 101).map (fun i=>(i.zero,i.size,i.bytes))=some (some .nilFunc,1,8):=by kernel_rfl
structure yOa(rs rl rw many:Int):Prop where
 s0:0≤rs
 s1:rs≤9999
 l0:0≤rl
 l1:rl≤9999
 w0:0≤rw
 w1:rw≤9999
 m0:2≤many
 m1:many≤4
def allowOf(rs rl rw:Int):Nat→Int
 |0=>rs
 |1=>rl
 |_=>rw
theorem checkRule_ok(rs rl rw many:Int)(A:Option Addr)(n c:Nat)(W:World)(hr:Hid (yOa rs rl rw many)) :
  CallsIn Fc 0 Tryz.prog 96 #[.agg #[.int .i64 rs,.int .i64 rl,.int .i64 rw,.int .i64 many,.slice A n c]] W (zya W):=by
 obtain⟨i0,hi,hz0,hz1,hz2⟩:=info_parts i101;have HI:=Lib.hid hi;have HZ0:=Lib.hid hz0;have HZ1:=Lib.hid hz1;have HZ2:=Lib.hid hz2;clear hi hz0 hz1 hz2;gi_enter Tryz.func96,Tryz.ntmps96
 gi_wp2_with (gi_at_call 65;refine(yr _).mono ?_;rintro e w' ⟨rfl,rfl⟩)
 gi_loopw [3,8] (fun sl i wr=>∃(k:Nat) (vs:List Value),k≤3∧i=.int .i64 k∧wr.ownsRow (W.heap.size+2) 101 1 sl k vs∧(∀ j,j<k→∃ v,vs[j]? = some v∧Lim v (allowOf rs rl rw j) 0 9999 wr) ∧
   Below (W.heap.size+2) ((W.alloc (.cells #[.int .i64 rs,.int .i64 rl,.int .i64 rw,.int .i64 many,.slice A n c] 99)).alloc (.cells measuresV 119)) wr) (fun _ i _=>3-(intOf i).toNat)
 case atStart=>exact⟨0,[],by omega,rfl,⟨rfl,.inl ⟨rfl,rfl⟩⟩,(fun j h=>absurd h (by omega)),Below.refl _ _⟩
 case round=>
  obtain⟨k,vs,hk,rfl,hown,hvs,hb⟩:=hrel;have c0:wr.cell? ⟨W.heap.size,0,none⟩=some (.int .i64 rs):=by rw[hb.cell (by simp)];go_simp
  have c1:wr.cell? ⟨W.heap.size,1,none⟩=some (.int .i64 rl):=by rw[hb.cell (by simp)];go_simp
  have c2:wr.cell? ⟨W.heap.size,2,none⟩=some (.int .i64 rw):=by rw[hb.cell (by simp)];go_simp
  have c3:wr.cell? ⟨W.heap.size,3,none⟩=some (.int .i64 many):=by rw[hb.cell (by simp)];go_simp
  have m0:wr.cell? ⟨W.heap.size+1,0,none⟩=some (.func (.func 105) #[] #[]):=by rw[hb.cell (by simp)];simp[measuresV]
  have m1:wr.cell? ⟨W.heap.size+1,1,none⟩=some (.func (.func 106) #[] #[]):=by rw[hb.cell (by simp)];simp[measuresV]
  have m2:wr.cell? ⟨W.heap.size+1,2,none⟩=some (.func (.func 107) #[] #[]):=by rw[hb.cell (by simp)];simp[measuresV]
  have m3:wr.cell? ⟨W.heap.size+1,3,none⟩=some (.func (.func 108) #[] #[]):=by rw[hb.cell (by simp)];simp[measuresV]
  have m4:wr.cell? ⟨W.heap.size+1,4,none⟩=some (.func (.func 109) #[] #[]):=by rw[hb.cell (by simp)];simp[measuresV]
  have m5:wr.cell? ⟨W.heap.size+1,5,none⟩=some (.func (.func 110) #[] #[]):=by rw[hb.cell (by simp)];simp[measuresV]
  have hz1:W.heap.size+1<wr.heap.size:=by have:=hb.size;simp at this;omega
  have hz0:W.heap.size<wr.heap.size:=by omega
  have HB:=Lib.hid hb;have HV:=Lib.hid hvs;have HO:=Lib.hid hown;clear hb hvs hown;by_cases hlt:k<3
  ·have h3:k=0∨k=1∨k=2:=by omega
   rcases h3 with rfl|rfl|rfl
   ·gi_wp2_with (first
      |(gi_at_call 106;refine(yW _ _ _ _ _).mono ?_;rintro e w2 ⟨rfl,hb2⟩)
      |(gi_at_call 108;refine(yV _ _ _ _ _).mono ?_;rintro e w2 ⟨rfl,hb2⟩)
      |(gi_at_call 110;refine(yU _ _ _ _ _).mono ?_;rintro e w2 ⟨rfl,hb2⟩)
      |(gi_at_call 77;refine(yu _ _ _ _).mono ?_;rintro e w3 ⟨lv,rfl,⟨p,q,r,rfl,hp,hq,hr3⟩,hb3⟩)
      |(gi_at_builtin;refine wpListIn_append_own _ rfl _ _ 151 rfl (W.heap.size+2) 101 i0 .nilFunc 1 8 u151 HI.out HZ0.out HZ1.out HZ2.out rfl (by decide) _ _ _ rfl ((zu (zu ((HO.out).alloc _) hb2) hb3).alloc _) ⟨w3.heap.size,0,none⟩ 1 1 [.func (.func 124) #[] #[ptr p,ptr q,ptr r]] rfl rfl (cell_one_new _ _ _) (by simp[Value.oneCell']) (by simp[maxLen]) (by decide) (by have:=hb2.size;have:=hb3.size;simp at *;omega) ?_;intro v' w4 hown4 hg4 hnil4))
    have hx:=(zu (zu ((HO.out).alloc (.cells #[.func (.func 105) #[] #[],.func (.func 106) #[] #[]] 119)) hb2) hb3).alloc (.cells #[.func (.func 124) #[] #[ptr p,ptr q,ptr r]] 101);have hs2:=hb2.size;have hs3:=hb3.size;simp at hs2 hs3;go_roundw
    case rel=>
     refine⟨0+1,vs++[.func (.func 124) #[] #[ptr p,ptr q,ptr r]],by omega,by first|rfl|go_num,hown4,zSb HO.out.1 (fun j hj=>?_) ?_,?_⟩
     ·obtain⟨v,h1,h2⟩:=HV.out j hj;exact⟨v,h1,((((h2.alloc _).below hb2).below hb3).alloc _).grown hg4 (zha hx)⟩
     ·exact(Lim.alloc ⟨p,q,r,rfl,hp,hq,hr3⟩ _).grown hg4 (zha hx)
     ·exact(((((HB.out.alloc (by omega) _).trans (hb2.mono (by simp;omega))).trans (hb3.mono (by omega))).alloc (by omega) _).grown hg4 (by simp;omega) (fun g hg=>(hx.lt g hg).1))
    case measure=>simp[intOf]
   ·gi_wp2_with (first
      |(gi_at_call 106;refine(yW _ _ _ _ _).mono ?_;rintro e w2 ⟨rfl,hb2⟩)
      |(gi_at_call 108;refine(yV _ _ _ _ _).mono ?_;rintro e w2 ⟨rfl,hb2⟩)
      |(gi_at_call 110;refine(yU _ _ _ _ _).mono ?_;rintro e w2 ⟨rfl,hb2⟩)
      |(gi_at_call 77;refine(yu _ _ _ _).mono ?_;rintro e w3 ⟨lv,rfl,⟨p,q,r,rfl,hp,hq,hr3⟩,hb3⟩)
      |(gi_at_builtin;refine wpListIn_append_own _ rfl _ _ 151 rfl (W.heap.size+2) 101 i0 .nilFunc 1 8 u151 HI.out HZ0.out HZ1.out HZ2.out rfl (by decide) _ _ _ rfl ((zu (zu ((HO.out).alloc _) hb2) hb3).alloc _) ⟨w3.heap.size,0,none⟩ 1 1 [.func (.func 124) #[] #[ptr p,ptr q,ptr r]] rfl rfl (cell_one_new _ _ _) (by simp[Value.oneCell']) (by simp[maxLen]) (by decide) (by have:=hb2.size;have:=hb3.size;simp at *;omega) ?_;intro v' w4 hown4 hg4 hnil4))
    have hx:=(zu (zu ((HO.out).alloc (.cells #[.func (.func 107) #[] #[],.func (.func 108) #[] #[]] 119)) hb2) hb3).alloc (.cells #[.func (.func 124) #[] #[ptr p,ptr q,ptr r]] 101);have hs2:=hb2.size;have hs3:=hb3.size;simp at hs2 hs3;go_roundw
    case rel=>
     refine⟨1+1,vs++[.func (.func 124) #[] #[ptr p,ptr q,ptr r]],by omega,by first|rfl|go_num,hown4,zSb HO.out.1 (fun j hj=>?_) ?_,?_⟩
     ·obtain⟨v,h1,h2⟩:=HV.out j hj;exact⟨v,h1,((((h2.alloc _).below hb2).below hb3).alloc _).grown hg4 (zha hx)⟩
     ·exact(Lim.alloc ⟨p,q,r,rfl,hp,hq,hr3⟩ _).grown hg4 (zha hx)
     ·exact(((((HB.out.alloc (by omega) _).trans (hb2.mono (by simp;omega))).trans (hb3.mono (by omega))).alloc (by omega) _).grown hg4 (by simp;omega) (fun g hg=>(hx.lt g hg).1))
    case measure=>simp[intOf]
   ·gi_wp2_with (first
      |(gi_at_call 106;refine(yW _ _ _ _ _).mono ?_;rintro e w2 ⟨rfl,hb2⟩)
      |(gi_at_call 108;refine(yV _ _ _ _ _).mono ?_;rintro e w2 ⟨rfl,hb2⟩)
      |(gi_at_call 110;refine(yU _ _ _ _ _).mono ?_;rintro e w2 ⟨rfl,hb2⟩)
      |(gi_at_call 77;refine(yu _ _ _ _).mono ?_;rintro e w3 ⟨lv,rfl,⟨p,q,r,rfl,hp,hq,hr3⟩,hb3⟩)
      |(gi_at_builtin;refine wpListIn_append_own _ rfl _ _ 151 rfl (W.heap.size+2) 101 i0 .nilFunc 1 8 u151 HI.out HZ0.out HZ1.out HZ2.out rfl (by decide) _ _ _ rfl ((zu (zu ((HO.out).alloc _) hb2) hb3).alloc _) ⟨w3.heap.size,0,none⟩ 1 1 [.func (.func 124) #[] #[ptr p,ptr q,ptr r]] rfl rfl (cell_one_new _ _ _) (by simp[Value.oneCell']) (by simp[maxLen]) (by decide) (by have:=hb2.size;have:=hb3.size;simp at *;omega) ?_;intro v' w4 hown4 hg4 hnil4))
    have hx:=(zu (zu ((HO.out).alloc (.cells #[.func (.func 109) #[] #[],.func (.func 110) #[] #[]] 119)) hb2) hb3).alloc (.cells #[.func (.func 124) #[] #[ptr p,ptr q,ptr r]] 101);have hs2:=hb2.size;have hs3:=hb3.size;simp at hs2 hs3;go_roundw
    case rel=>
     refine⟨2+1,vs++[.func (.func 124) #[] #[ptr p,ptr q,ptr r]],by omega,by first|rfl|go_num,hown4,zSb HO.out.1 (fun j hj=>?_) ?_,?_⟩
     ·obtain⟨v,h1,h2⟩:=HV.out j hj;exact⟨v,h1,((((h2.alloc _).below hb2).below hb3).alloc _).grown hg4 (zha hx)⟩
     ·exact(Lim.alloc ⟨p,q,r,rfl,hp,hq,hr3⟩ _).grown hg4 (zha hx)
     ·exact(((((HB.out.alloc (by omega) _).trans (hb2.mono (by simp;omega))).trans (hb3.mono (by omega))).alloc (by omega) _).grown hg4 (by simp;omega) (fun g hg=>(hx.lt g hg).1))
    case measure=>simp[intOf]
  ·obtain rfl:k=3:=by omega
   gi_wp2_with (first
    |(gi_at_call 77;refine(yu _ _ _ _).mono ?_;rintro e w3 ⟨lv,rfl,⟨p,q,r,rfl,hp,hq,hr3⟩,hb3⟩)
    |(gi_at_builtin;refine wpListIn_append_own _ rfl _ _ 151 rfl (W.heap.size+2) 101 i0 .nilFunc 1 8 u151 HI.out HZ0.out HZ1.out HZ2.out rfl (by decide) _ _ _ rfl ((zu (HO.out) hb3).alloc _) ⟨w3.heap.size,0,none⟩ 1 1 [.func (.func 124) #[] #[ptr p,ptr q,ptr r]] rfl rfl (cell_one_new _ _ _) (by simp[Value.oneCell']) (by simp[maxLen]) (by decide) (by have:=hb3.size;simp at *;omega) ?_;intro v' w4 hown4 hg4 hnil4)
    |fail)
   have hx:=(zu (HO.out) hb3).alloc (.cells #[.func (.func 124) #[] #[ptr p,ptr q,ptr r]] 101);have hs3:=hb3.size;obtain⟨g,cap,rfl,hg1,hg2⟩:=hown4.form (by omega);have hlims:∀ j,j<3+1→∃ v,(vs++[.func (.func 124) #[] #[ptr p,ptr q,ptr r]])[j]? = some v∧yJ v w4:=
    zSb HO.out.1 (fun j hj=>by
     obtain⟨v,h1,h2⟩:=HV.out j hj;refine⟨v,h1,(((h2.below hb3).alloc _).grown hg4 (zha hx)).fair ?_ ?_⟩
     ·have h3:j=0∨j=1∨j=2:=by omega
      rcases h3 with rfl|rfl|rfl
      ·exact hr.out.s0
      ·exact hr.out.l0
      ·exact hr.out.w0
     ·have h3:j=0∨j=1∨j=2:=by omega
      rcases h3 with rfl|rfl|rfl
      ·exact hr.out.s1
      ·exact hr.out.l1
      ·exact hr.out.w1)
     (((Lim.alloc ⟨p,q,r,rfl,hp,hq,hr3⟩ _).grown hg4 (zha hx)).fair hr.out.m0 hr.out.m1)
   have hB4:Below W.heap.size W w4:=
    (((((Below.refl W.heap.size W).alloc (Nat.le_refl _) _).alloc (by simp) _).trans (HB.out.mono (by omega))).trans (hb3.mono (by omega))).alloc (by omega) _ |>.grown hg4 (by simp;omega) (fun g hg=>by have:=(hx.lt g hg).1;omega)
   refine(yi g (3+1) cap w4 (by omega) (Lib.hid fun j hj=>?_)).mono ?_
   ·obtain⟨v,h1,h2⟩:=hlims j hj;exact⟨v,by rw[hown4.cellAt j (by omega)];exact h1,h2⟩
   ·rintro e w5 ⟨rfl,hb5⟩;gi_wp2;go_ret;exact⟨rfl,hB4.trans (hb5.mono hB4.size)⟩
end
section
open Go.RowKit
structure Shaft where
 name:ByteArray
 s0:Int
 s1:Int
 l0:Int
 l1:Int
 w0:Int
 w1:Int
structure zKb(w:World)(b p:Nat)(x:Shaft):Prop where
 h0:w.cell? ⟨b,p,none⟩=some (.string x.name)
 h1:w.cell? ⟨b,p+1,none⟩=some (.int .i64 x.s0)
 h2:w.cell? ⟨b,p+2,none⟩=some (.int .i64 x.s1)
 h3:w.cell? ⟨b,p+3,none⟩=some (.int .i64 x.l0)
 h4:w.cell? ⟨b,p+4,none⟩=some (.int .i64 x.l1)
 h5:w.cell? ⟨b,p+5,none⟩=some (.int .i64 x.w0)
 h6:w.cell? ⟨b,p+6,none⟩=some (.int .i64 x.w1)
abbrev yXb(x:Shaft):Value:=.agg #[.string x.name,.int .i64 x.s0,.int .i64 x.s1,.int .i64 x.l0,.int .i64 x.l1,.int .i64 x.w0,.int .i64 x.w1]
def zA(w:World)(A:Option Addr)(n:Nat)(sh:Nat→Shaft):Prop:=∀ k,k<n→∃ b o,A=some ⟨b,o,none⟩∧zKb w b (o+k*7) (sh k)
theorem zKb.below{W w:World}(h:Below W.heap.size W w){b p:Nat}{x:Shaft}(hx:zKb W b p x):zKb w b p x:=
 ⟨Below.old h hx.h0,Below.old h hx.h1,Below.old h hx.h2,Below.old h hx.h3,Below.old h hx.h4,Below.old h hx.h5,Below.old h hx.h6⟩
theorem zA.below{W w:World}(h:Below W.heap.size W w){A:Option Addr}{n:Nat}{sh:Nat→Shaft}(hx:zA W A n sh):zA w A n sh:=fun k hk=>by obtain⟨b,o,rfl,h1⟩:=hx k hk;exact⟨b,o,rfl,h1.below h⟩
theorem zKb.lt{w:World}{b p:Nat}{x:Shaft}(h:zKb w b p x):b<w.heap.size:=World.block_lt_of_cell? w _ h.h0
theorem checkCount_ok(rs rl rw many:Int)(A:Option Addr)(n c:Nat)(W:World)(hn:n≤9) :
  CallsIn Fc 0 Tryz.prog 97 #[.agg #[.int .i64 rs,.int .i64 rl,.int .i64 rw,.int .i64 many,.slice A n c]] W (zya W):=by
 gi_enter Tryz.func97,Tryz.ntmps97;gi_wp2;go_ret;exact⟨rfl,(Below.refl _ _).alloc (Nat.le_refl _) _⟩
def yZa(b:Bool)(w:World)(e:Ending)(w':World):Prop:=e=.returned (.bool b)∧Below w.heap.size w w'
theorem same_no(x:Shaft)(q:Nat)(t:ByteArray)(w:World)(hq:w.cell? ⟨q,0,none⟩=some (.string t))(hne:(x.name.toList==t.toList)=false) :
  CallsIn Fc 0 Tryz.prog 160 #[yXb x,ptr q] w (yZa false w):=by
 have hql:q<w.heap.size:=World.block_lt_of_cell? w _ hq;gi_enter Tryz.func160,Tryz.ntmps160;gi_wp2;go_ret;exact⟨rfl,(Below.refl _ _).alloc (Nat.le_refl _) _⟩
def yya(n:Int)(w:World)(e:Ending)(w':World):Prop:=e=.returned (.int .i64 n)∧Below w.heap.size w w'
theorem indexFunc_no(A:Option Addr)(n m c:Nat)(sh:Nat→Shaft)(q:Nat)(t:ByteArray)(W:World)(hn:m≤9)(hmn:m≤n)(hsh:Hid (zA W A n sh))(hq:Hid (W.cell? ⟨q,0,none⟩=some (.string t)))
  (hne:Hid (∀ k,k<m→((sh k).name.toList==t.toList)=false)) :
  CallsIn Fc 0 Tryz.prog 172 #[.slice A m c,.func (.func 160) #[] #[ptr q]] W (yya (-1) W):=by
 gi_enter Tryz.func172,Tryz.ntmps172;gi_wp2
 gi_loopw [8] (fun i wr=>∃ k:Nat,k≤m∧i=.int .i64 k∧Below W.heap.size W wr) (fun i _=>m-(intOf i).toNat)
 case atStart=>exact⟨0,Nat.zero_le _,rfl,Below.refl _ _⟩
 case round=>
  obtain⟨k,hk,rfl,hb⟩:=hrel;by_cases hlt:k<m
  ·obtain⟨b,o,rfl,hx⟩:=hsh.out k (by omega);obtain⟨e0,e1,e2,e3,e4,e5,e6⟩:=hx.below hb;have HQ:=Lib.hid (Below.old hb hq.out)
   gi_wp2_with (gi_at_call 160;refine(same_no _ _ t _ HQ.out (hne.out k hlt)).mono ?_;rintro e w' ⟨rfl,hb1⟩)
   go_roundw
   case rel=>exact⟨k+1,by omega,by go_num,hb.trans (hb1.mono hb.size)⟩
   case measure=>simp[intOf];omega
  ·gi_wp2;go_ret;exact⟨rfl,hb⟩
theorem contains_no(A:Option Addr)(n m c:Nat)(sh:Nat→Shaft)(q:Nat)(t:ByteArray)(W:World)(hn:m≤9)(hmn:m≤n)(hsh:Hid (zA W A n sh))(hq:Hid (W.cell? ⟨q,0,none⟩=some (.string t)))
  (hne:Hid (∀ k,k<m→((sh k).name.toList==t.toList)=false)) :
  CallsIn Fc 0 Tryz.prog 161 #[.slice A m c,.func (.func 160) #[] #[ptr q]] W (yZa false W):=by
 gi_enter Tryz.func161,Tryz.ntmps161
 gi_wp2_with (gi_at_call 172;refine(indexFunc_no A n m c sh q t _ hn hmn hsh hq hne).mono ?_;rintro e w' ⟨rfl,hb1⟩)
 go_ret;exact⟨rfl,hb1⟩
structure yxa(x:Shaft):Prop where
 name:ySb x.name
 s0:0≤x.s0
 s1:x.s0≤x.s1
 s2:x.s1≤9999
 l0:0≤x.l0
 l1:x.l0≤x.l1
 l2:x.l1≤9999
 w0:0≤x.w0
 w1:x.w0≤x.w1
 w2:x.w1≤9999
structure zxa(rs rl rw many:Int)(n:Nat)(sh:Nat→Shaft):Prop where
 rule:yOa rs rl rw many
 count:n≤9
 each:∀ k,k<n→yxa (sh k)
 once:∀ j k,j<k→k<n→((sh j).name.toList==(sh k).name.toList)=false
def spanA(x:Shaft):Nat→Int
 |0=>x.s0
 |1=>x.l0
 |_=>x.w0
def spanB(x:Shaft):Nat→Int
 |0=>x.s1
 |1=>x.l1
 |_=>x.w1
theorem checkShaft_ok(rs rl rw many:Int)(b o n c k:Nat)(sh:Nat→Shaft)(W:World)(hk:k<n)(hc:n≤c)(hst:Hid (zxa rs rl rw many n sh))(hsh:Hid (zA W (some ⟨b,o,none⟩) n sh)) :
  CallsIn Fc 0 Tryz.prog 138 #[.agg #[.int .i64 rs,.int .i64 rl,.int .i64 rw,.int .i64 many,.slice (some ⟨b,o,none⟩) n c],.int .i64 k] W (zya W):=by
 have hn:=hst.out.count;obtain⟨i0,hi,hz0,hz1,hz2⟩:=info_parts i101;have HI:=Lib.hid hi;have HZ0:=Lib.hid hz0;have HZ1:=Lib.hid hz1;have HZ2:=Lib.hid hz2;clear hi hz0 hz1 hz2;have hx:zKb W b (o+k*7) (sh k):=by obtain⟨b',o',e,h⟩:=hsh.out k hk;cases e;exact h
 have hbl:=hx.lt;obtain⟨e0,e1,e2,e3,e4,e5,e6⟩:=hx;gi_enter Tryz.func138,Tryz.ntmps138;have hW2:Below W.heap.size W ((W.alloc (.cells #[.int .i64 rs,.int .i64 rl,.int .i64 rw,.int .i64 many,.slice (some ⟨b,o,none⟩) n c] 99)).alloc
   (.cells #[.string (sh k).name,.int .i64 (sh k).s0,.int .i64 (sh k).s1,.int .i64 (sh k).l0,.int .i64 (sh k).l1,.int .i64 (sh k).w0,.int .i64 (sh k).w1] 65)):=
  ((Below.refl _ _).alloc (Nat.le_refl _) _).alloc (by simp) _
 have HW2:=Lib.hid hW2;clear hW2
 gi_wp2_with (first
  |(gi_at_call 159;refine(isName2_ok _ _ (Lib.hid (hst.out.each k hk).name)).mono ?_;rintro e w' ⟨rfl,rfl⟩)
  |(gi_at_call 161;refine(contains_no _ n k c sh _ (sh k).name _ (by omega) (by omega) (Lib.hid (hsh.out.below HW2.out)) (Lib.hid (by go_simp)) (Lib.hid fun j hj=>hst.out.once j k hj hk)).mono ?_;rintro e w2 ⟨rfl,hb2⟩)
  |(gi_at_call 65;refine(yr _).mono ?_;rintro e w' ⟨rfl,rfl⟩))
 have p1:w2.cell? ⟨W.heap.size+1,1,none⟩=some (.int .i64 (sh k).s0):=Below.old hb2 (by go_simp);have p2:w2.cell? ⟨W.heap.size+1,2,none⟩=some (.int .i64 (sh k).s1):=Below.old hb2 (by go_simp);have p3:w2.cell? ⟨W.heap.size+1,3,none⟩=some (.int .i64 (sh k).l0):=Below.old hb2 (by go_simp);have p4:w2.cell? ⟨W.heap.size+1,4,none⟩=some (.int .i64 (sh k).l1):=Below.old hb2 (by go_simp);have p5:w2.cell? ⟨W.heap.size+1,5,none⟩=some (.int .i64 (sh k).w0):=Below.old hb2 (by go_simp);have p6:w2.cell? ⟨W.heap.size+1,6,none⟩=some (.int .i64 (sh k).w1):=Below.old hb2 (by go_simp);have hz2:W.heap.size+1<w2.heap.size:=by have:=hb2.size;simp at this;omega
 have HB2:=Lib.hid hb2;clear hb2
 gi_loopw [7,30] (fun sl i wr=>∃(j:Nat) (vs:List Value),j≤3∧i=.int .i64 j∧wr.ownsRow (w2.heap.size+1) 101 1 sl j vs∧(∀ u,u<j→∃ v,vs[u]? = some v∧Spn v (spanA (sh k) u) (spanB (sh k) u) 0 9999 wr) ∧
   Below (w2.heap.size+1) (w2.alloc (.cells measuresV 119)) wr) (fun _ i _=>3-(intOf i).toNat)
 case atStart=>exact⟨0,[],by omega,rfl,⟨rfl,.inl ⟨rfl,rfl⟩⟩,(fun j h=>absurd h (by omega)),Below.refl _ _⟩
 case round=>
  obtain⟨j,vs,hj,rfl,hown,hvs,hb⟩:=hrel;have c1:wr.cell? ⟨W.heap.size+1,1,none⟩=some (.int .i64 (sh k).s0):=by rw[hb.cell (by simp;omega)];go_simp
  have c2:wr.cell? ⟨W.heap.size+1,2,none⟩=some (.int .i64 (sh k).s1):=by rw[hb.cell (by simp;omega)];go_simp
  have c3:wr.cell? ⟨W.heap.size+1,3,none⟩=some (.int .i64 (sh k).l0):=by rw[hb.cell (by simp;omega)];go_simp
  have c4:wr.cell? ⟨W.heap.size+1,4,none⟩=some (.int .i64 (sh k).l1):=by rw[hb.cell (by simp;omega)];go_simp
  have c5:wr.cell? ⟨W.heap.size+1,5,none⟩=some (.int .i64 (sh k).w0):=by rw[hb.cell (by simp;omega)];go_simp
  have c6:wr.cell? ⟨W.heap.size+1,6,none⟩=some (.int .i64 (sh k).w1):=by rw[hb.cell (by simp;omega)];go_simp
  have m0:wr.cell? ⟨w2.heap.size,0,none⟩=some (.func (.func 105) #[] #[]):=by rw[hb.cell (by simp)];simp[measuresV]
  have m1:wr.cell? ⟨w2.heap.size,1,none⟩=some (.func (.func 106) #[] #[]):=by rw[hb.cell (by simp)];simp[measuresV]
  have m2:wr.cell? ⟨w2.heap.size,2,none⟩=some (.func (.func 107) #[] #[]):=by rw[hb.cell (by simp)];simp[measuresV]
  have m3:wr.cell? ⟨w2.heap.size,3,none⟩=some (.func (.func 108) #[] #[]):=by rw[hb.cell (by simp)];simp[measuresV]
  have m4:wr.cell? ⟨w2.heap.size,4,none⟩=some (.func (.func 109) #[] #[]):=by rw[hb.cell (by simp)];simp[measuresV]
  have m5:wr.cell? ⟨w2.heap.size,5,none⟩=some (.func (.func 110) #[] #[]):=by rw[hb.cell (by simp)];simp[measuresV]
  have hz0:w2.heap.size<wr.heap.size:=by have:=hb.size;simp at this;omega
  have hz1:W.heap.size+1<wr.heap.size:=by omega
  have HB:=Lib.hid hb;have HV:=Lib.hid hvs;have HO:=Lib.hid hown;clear hb hvs hown p1 p2 p3 p4 p5 p6;by_cases hlt:j<3
  ·have h3:j=0∨j=1∨j=2:=by omega
   rcases h3 with rfl|rfl|rfl
   ·gi_wp2_with (first
      |(gi_at_call 105;refine(zAb _ _ _).mono ?_;rintro e w5 ⟨rfl,rfl⟩)
      |(gi_at_call 107;refine(zzb _ _ _).mono ?_;rintro e w5 ⟨rfl,rfl⟩)
      |(gi_at_call 109;refine(zyb _ _ _).mono ?_;rintro e w5 ⟨rfl,rfl⟩)
      |(gi_at_call 78;refine(yj _ _ _ _ _).mono ?_;rintro e w3 ⟨lv,rfl,⟨p,q,r,rfl,hp,hq,hr3⟩,hb3⟩)
      |(gi_at_builtin;refine wpListIn_append_own _ rfl _ _ 151 rfl (w2.heap.size+1) 101 i0 .nilFunc 1 8 u151 HI.out HZ0.out HZ1.out HZ2.out rfl (by decide) _ _ _ rfl ((zu ((HO.out).alloc _) hb3).alloc _) ⟨w3.heap.size,0,none⟩ 1 1 [.func (.func 125) #[] #[ptr p,ptr q,ptr r]] rfl rfl (cell_one_new _ _ _) (by simp[Value.oneCell']) (by simp[maxLen]) (by decide) (by have:=hb3.size;simp at *;omega) ?_;intro v' w4 hown4 hg4 hnil4))
    have hx:=(zu ((HO.out).alloc (.cells #[.func (.func 105) #[] #[],.func (.func 106) #[] #[]] 119)) hb3).alloc (.cells #[.func (.func 125) #[] #[ptr p,ptr q,ptr r]] 101);have hs3:=hb3.size;simp at hs3;go_roundw
    case rel=>
     refine⟨0+1,vs++[.func (.func 125) #[] #[ptr p,ptr q,ptr r]],by omega,by first|rfl|go_num,hown4,zSb HO.out.1 (fun j hj=>?_) ?_,?_⟩
     ·obtain⟨v,h1,h2⟩:=HV.out j hj;exact⟨v,h1,(((h2.alloc _).below hb3).alloc _).grown hg4 (zha hx)⟩
     ·exact(Spn.alloc ⟨p,q,r,rfl,hp,hq,hr3⟩ _).grown hg4 (zha hx)
     ·exact((((HB.out.alloc (by omega) _).trans (hb3.mono (by simp;omega))).alloc (by omega) _).grown hg4 (by simp;omega) (fun g hg=>(hx.lt g hg).1))
    case measure=>simp[intOf]
   ·gi_wp2_with (first
      |(gi_at_call 105;refine(zAb _ _ _).mono ?_;rintro e w5 ⟨rfl,rfl⟩)
      |(gi_at_call 107;refine(zzb _ _ _).mono ?_;rintro e w5 ⟨rfl,rfl⟩)
      |(gi_at_call 109;refine(zyb _ _ _).mono ?_;rintro e w5 ⟨rfl,rfl⟩)
      |(gi_at_call 78;refine(yj _ _ _ _ _).mono ?_;rintro e w3 ⟨lv,rfl,⟨p,q,r,rfl,hp,hq,hr3⟩,hb3⟩)
      |(gi_at_builtin;refine wpListIn_append_own _ rfl _ _ 151 rfl (w2.heap.size+1) 101 i0 .nilFunc 1 8 u151 HI.out HZ0.out HZ1.out HZ2.out rfl (by decide) _ _ _ rfl ((zu ((HO.out).alloc _) hb3).alloc _) ⟨w3.heap.size,0,none⟩ 1 1 [.func (.func 125) #[] #[ptr p,ptr q,ptr r]] rfl rfl (cell_one_new _ _ _) (by simp[Value.oneCell']) (by simp[maxLen]) (by decide) (by have:=hb3.size;simp at *;omega) ?_;intro v' w4 hown4 hg4 hnil4))
    have hx:=(zu ((HO.out).alloc (.cells #[.func (.func 107) #[] #[],.func (.func 108) #[] #[]] 119)) hb3).alloc (.cells #[.func (.func 125) #[] #[ptr p,ptr q,ptr r]] 101);have hs3:=hb3.size;simp at hs3;go_roundw
    case rel=>
     refine⟨1+1,vs++[.func (.func 125) #[] #[ptr p,ptr q,ptr r]],by omega,by first|rfl|go_num,hown4,zSb HO.out.1 (fun j hj=>?_) ?_,?_⟩
     ·obtain⟨v,h1,h2⟩:=HV.out j hj;exact⟨v,h1,(((h2.alloc _).below hb3).alloc _).grown hg4 (zha hx)⟩
     ·exact(Spn.alloc ⟨p,q,r,rfl,hp,hq,hr3⟩ _).grown hg4 (zha hx)
     ·exact((((HB.out.alloc (by omega) _).trans (hb3.mono (by simp;omega))).alloc (by omega) _).grown hg4 (by simp;omega) (fun g hg=>(hx.lt g hg).1))
    case measure=>simp[intOf]
   ·gi_wp2_with (first
      |(gi_at_call 105;refine(zAb _ _ _).mono ?_;rintro e w5 ⟨rfl,rfl⟩)
      |(gi_at_call 107;refine(zzb _ _ _).mono ?_;rintro e w5 ⟨rfl,rfl⟩)
      |(gi_at_call 109;refine(zyb _ _ _).mono ?_;rintro e w5 ⟨rfl,rfl⟩)
      |(gi_at_call 78;refine(yj _ _ _ _ _).mono ?_;rintro e w3 ⟨lv,rfl,⟨p,q,r,rfl,hp,hq,hr3⟩,hb3⟩)
      |(gi_at_builtin;refine wpListIn_append_own _ rfl _ _ 151 rfl (w2.heap.size+1) 101 i0 .nilFunc 1 8 u151 HI.out HZ0.out HZ1.out HZ2.out rfl (by decide) _ _ _ rfl ((zu ((HO.out).alloc _) hb3).alloc _) ⟨w3.heap.size,0,none⟩ 1 1 [.func (.func 125) #[] #[ptr p,ptr q,ptr r]] rfl rfl (cell_one_new _ _ _) (by simp[Value.oneCell']) (by simp[maxLen]) (by decide) (by have:=hb3.size;simp at *;omega) ?_;intro v' w4 hown4 hg4 hnil4))
    have hx:=(zu ((HO.out).alloc (.cells #[.func (.func 109) #[] #[],.func (.func 110) #[] #[]] 119)) hb3).alloc (.cells #[.func (.func 125) #[] #[ptr p,ptr q,ptr r]] 101);have hs3:=hb3.size;simp at hs3;go_roundw
    case rel=>
     refine⟨2+1,vs++[.func (.func 125) #[] #[ptr p,ptr q,ptr r]],by omega,by first|rfl|go_num,hown4,zSb HO.out.1 (fun j hj=>?_) ?_,?_⟩
     ·obtain⟨v,h1,h2⟩:=HV.out j hj;exact⟨v,h1,(((h2.alloc _).below hb3).alloc _).grown hg4 (zha hx)⟩
     ·exact(Spn.alloc ⟨p,q,r,rfl,hp,hq,hr3⟩ _).grown hg4 (zha hx)
     ·exact((((HB.out.alloc (by omega) _).trans (hb3.mono (by simp;omega))).alloc (by omega) _).grown hg4 (by simp;omega) (fun g hg=>(hx.lt g hg).1))
    case measure=>simp[intOf]
  ·obtain rfl:j=3:=by omega
   have hok:=hst.out.each k hk;obtain⟨g,cap,rfl,hg1,hg2⟩:=HO.out.form (by omega);have hB4:Below W.heap.size W wr:=(HW2.out.trans (HB2.out.mono (by simp;omega))).trans ((((Below.refl w2.heap.size w2).alloc (Nat.le_refl _) _).trans (HB.out.mono (by omega))).mono (by omega));have HB4:=Lib.hid hB4;have HK:=Lib.hid hok;clear hB4 hok
   gi_wp2_with (gi_at_call 55;refine(yi g 3 cap wr (by omega) (Lib.hid fun u hu=>?_)).mono ?_)
   ·obtain⟨v,h1,h2⟩:=HV.out u hu;refine⟨v,by rw[HO.out.cellAt u (by omega)];exact h1,h2.fair ?_ ?_ ?_⟩
    ·have h3:u=0∨u=1∨u=2:=by omega
     rcases h3 with rfl|rfl|rfl
     ·exact HK.out.s0
     ·exact HK.out.l0
     ·exact HK.out.w0
    ·have h3:u=0∨u=1∨u=2:=by omega
     rcases h3 with rfl|rfl|rfl
     ·exact HK.out.s1
     ·exact HK.out.l1
     ·exact HK.out.w1
    ·have h3:u=0∨u=1∨u=2:=by omega
     rcases h3 with rfl|rfl|rfl
     ·exact HK.out.s2
     ·exact HK.out.l2
     ·exact HK.out.w2
   ·rintro e w5 ⟨rfl,hb5⟩;gi_wp2;go_ret;exact⟨rfl,HB4.out.trans (hb5.mono HB4.out.size)⟩
end
section
open Go.RowKit
abbrev zga(rs rl rw many:Int)(A:Option Addr)(n c:Nat):Value:=.agg #[.int .i64 rs,.int .i64 rl,.int .i64 rw,.int .i64 many,.slice A n c]
theorem checkShafts_ok(rs rl rw many:Int)(A:Option Addr)(n c:Nat)(sh:Nat→Shaft)(W:World)(hc:n≤c)(hst:Hid (zxa rs rl rw many n sh))(hsh:Hid (zA W A n sh)) :
  CallsIn Fc 0 Tryz.prog 98 #[zga rs rl rw many A n c] W (zya W):=by
 have hn:=hst.out.count;gi_enter Tryz.func98,Tryz.ntmps98;gi_wp2
 gi_loopw [9] (fun i wr=>∃ k:Nat,k≤n∧i=.int .i64 k∧Below W.heap.size W wr∧Below (W.heap.size+1) (W.alloc (.cells #[.int .i64 rs,.int .i64 rl,.int .i64 rw,.int .i64 many,.slice A n c] 99)) wr) (fun i _=>n-(intOf i).toNat)
 case atStart=>exact⟨0,Nat.zero_le _,rfl,(Below.refl _ _).alloc (Nat.le_refl _) _,Below.refl _ _⟩
 case round=>
  obtain⟨k,hk,rfl,hb,hb'⟩:=hrel;by_cases hlt:k<n
  ·obtain⟨b,o,rfl,_⟩:=hsh.out k hlt;have c0:wr.cell? ⟨W.heap.size,0,none⟩=some (.int .i64 rs):=by rw[hb'.cell (by simp)];go_simp
   have c1:wr.cell? ⟨W.heap.size,1,none⟩=some (.int .i64 rl):=by rw[hb'.cell (by simp)];go_simp
   have c2:wr.cell? ⟨W.heap.size,2,none⟩=some (.int .i64 rw):=by rw[hb'.cell (by simp)];go_simp
   have c3:wr.cell? ⟨W.heap.size,3,none⟩=some (.int .i64 many):=by rw[hb'.cell (by simp)];go_simp
   have c4:wr.cell? ⟨W.heap.size,4,none⟩=some (.slice (some ⟨b,o,none⟩) n c):=by rw[hb'.cell (by simp)];go_simp
   have HB:=Lib.hid hb;have HB':=Lib.hid hb';clear hb hb'
   gi_wp2_with (gi_at_call 138;refine(checkShaft_ok rs rl rw many b o n c k sh wr hlt hc hst (Lib.hid (hsh.out.below HB.out))).mono ?_;rintro e w' ⟨rfl,hb1⟩)
   go_roundw
   case rel=>exact⟨k+1,by omega,by go_num,HB.out.trans (hb1.mono HB.out.size),HB'.out.trans (hb1.mono (by have:=HB'.out.size;simpa using this))⟩
   case measure=>simp[intOf];omega
  ·gi_wp2;go_ret;exact⟨rfl,hb⟩
theorem yCb(rs rl rw many:Int)(A:Option Addr)(n c:Nat)(sh:Nat→Shaft)(W:World)(hc:n≤c)(hst:Hid (zxa rs rl rw many n sh))(hsh:Hid (zA W A n sh)) :
  CallsIn Fc 0 Tryz.prog 56 #[zga rs rl rw many A n c] W (zya W):=by
 have hB1:∀ x,Below W.heap.size W ((W.alloc (.cells #[.int .i64 rs,.int .i64 rl,.int .i64 rw,.int .i64 many,.slice A n c] 99)).alloc x):=fun x=>((Below.refl _ _).alloc (Nat.le_refl _) _).alloc (by simp) _
 have HB1:=Lib.hid hB1;clear hB1;gi_enter Tryz.func56,Tryz.ntmps56
 gi_wp2_with (gi_at_call 55;refine(yi _ 3 _ _ (by omega) (Lib.hid fun u hu=>?_)).mono ?_)
 ·have h3:u=0∨u=1∨u=2:=by omega
  rcases h3 with rfl|rfl|rfl
  ·exact⟨.func (.func 96) #[zga rs rl rw many A n c] #[],by go_simp,.inl ⟨96,_,.inl rfl,rfl,fun w' hb=>checkRule_ok rs rl rw many A n c w' (Lib.hid hst.out.rule)⟩⟩
  ·exact⟨.func (.func 97) #[zga rs rl rw many A n c] #[],by go_simp,.inl ⟨97,_,.inr (.inl rfl),rfl,fun w' hb=>checkCount_ok rs rl rw many A n c w' hst.out.count⟩⟩
  ·exact⟨.func (.func 98) #[zga rs rl rw many A n c] #[],by go_simp,.inl ⟨98,_,.inr (.inr (.inl rfl)),rfl,fun w' hb=>checkShafts_ok rs rl rw many A n c sh w' hc hst (Lib.hid ((hsh.out.below (HB1.out _)).below hb))⟩⟩
 ·rintro e w5 ⟨rfl,hb5⟩;gi_wp2;go_ret;exact⟨rfl,(HB1.out _).trans (hb5.mono (HB1.out _).size)⟩
def ListOk(l:Nat→Int)(m n:Nat):Prop:=(∀ k,k<m→0≤l k∧l k<n)∧∀ k,k+1<m→l k<l (k+1)
def zca(w:World)(A:Option Addr)(m:Nat)(l:Nat→Int):Prop:=∀ k,k<m→∃ b o,A=some ⟨b,o,none⟩∧w.cell? ⟨b,o+k,none⟩=some (.int .i64 (l k))
theorem zca.below{W w:World}(h:Below W.heap.size W w){A:Option Addr}{n:Nat}{l:Nat→Int}(hx:zca W A n l):zca w A n l:=fun k hk=>by obtain⟨b,o,rfl,h1⟩:=hx k hk;exact⟨b,o,rfl,Below.old h h1⟩
theorem has_ok(rs rl rw many:Int)(A:Option Addr)(n c:Nat)(i:Int)(W:World)(h0:0≤i)(h1:i<n)(hn:n≤9) :
  CallsIn Fc 0 Tryz.prog 100 #[zga rs rl rw many A n c,.int .i64 i] W (yZa true W):=by
 gi_enter Tryz.func100,Tryz.ntmps100;gi_wp2;go_ret;exact⟨rfl,(Below.refl _ _).alloc (Nat.le_refl _) _⟩
structure zmc(w:World)(lp sp:Nat)(LA:Option Addr)(m lc:Nat)(rs rl rw many:Int)(A:Option Addr)(n c:Nat):Prop where
 l:w.cell? ⟨lp,0,none⟩=some (.slice LA m lc)
 c0:w.cell? ⟨sp,0,none⟩=some (.int .i64 rs)
 c1:w.cell? ⟨sp,1,none⟩=some (.int .i64 rl)
 c2:w.cell? ⟨sp,2,none⟩=some (.int .i64 rw)
 c3:w.cell? ⟨sp,3,none⟩=some (.int .i64 many)
 c4:w.cell? ⟨sp,4,none⟩=some (.slice A n c)
theorem zmc.below{W w:World}(h:Below W.heap.size W w){lp sp:Nat}{LA:Option Addr}{m lc:Nat}{rs rl rw many:Int}{A:Option Addr}{n c:Nat}(hx:zmc W lp sp LA m lc rs rl rw many A n c):zmc w lp sp LA m lc rs rl rw many A n c:=
 ⟨Below.old h hx.l,Below.old h hx.c0,Below.old h hx.c1,Below.old h hx.c2,Below.old h hx.c3,Below.old h hx.c4⟩
theorem hasList1_ok(lp sp:Nat)(LA:Option Addr)(m lc:Nat)(l:Nat→Int)(rs rl rw many:Int)(A:Option Addr)(n c:Nat)(W:World)(hn:n≤9)(hm:m≤100)
  (hbox:Hid (zmc W lp sp LA m lc rs rl rw many A n c)) (hl:Hid (ListOk l m n)) (hi:Hid (zca W LA m l)) :
  CallsIn Fc 0 Tryz.prog 99 #[ptr lp,ptr sp] W (zya W):=by
 have e0:=hbox.out.l;gi_enter Tryz.func99,Tryz.ntmps99;gi_wp2;clear e0
 gi_loopw [7] (fun i wr=>∃ k:Nat,k≤m∧i=.int .i64 k∧Below W.heap.size W wr) (fun i _=>m-(intOf i).toNat)
 case atStart=>exact⟨0,Nat.zero_le _,rfl,Below.refl _ _⟩
 case round=>
  obtain⟨k,hk,rfl,hb⟩:=hrel;by_cases hlt:k<m
  ·obtain⟨b,o,rfl,hc⟩:=hi.out k hlt;have hck:=Below.old hb hc;obtain⟨d0,d1,d2,d3,d4,d5⟩:=hbox.out.below hb;have hl0:=(hl.out.1 k hlt).1;have hl1:=(hl.out.1 k hlt).2;have HB:=Lib.hid hb;clear hb hc;cases k with
   |zero=>
    simp only[Nat.add_zero] at hck
    gi_wp2_with (gi_at_call 100;refine(has_ok _ _ _ _ _ _ _ _ _ hl0 hl1 hn).mono ?_;rintro e w' ⟨rfl,hb1⟩)
    go_roundw
    case rel=>exact⟨0+1,by omega,by first|rfl|go_num,HB.out.trans (hb1.mono HB.out.size)⟩
    case measure=>simp[intOf];omega
   |succ j=>
    obtain⟨b',o',e,hc'⟩:=hi.out j (by omega);cases e;have hcj:=Below.old HB.out hc';clear hc';have hasc:=hl.out.2 j hlt;have HCJ:=Lib.hid hcj;clear hcj
    gi_wp2_with (gi_at_call 100;refine(has_ok _ _ _ _ _ _ _ _ _ hl0 hl1 hn).mono ?_;rintro e w' ⟨rfl,hb1⟩;have f0:=Below.old hb1 HCJ.out;have f1:=Below.old hb1 d0)
    go_roundw
    case rel=>exact⟨j+1+1,by omega,by go_num,HB.out.trans (hb1.mono HB.out.size)⟩
    case measure=>simp[intOf];omega
  ·gi_wp2;go_ret;exact⟨rfl,hb⟩
def HandsList(LA:Option Addr)(m lc:Nat)(rs rl rw many:Int)(A:Option Addr)(n c:Nat)(w:World)(e:Ending)(w':World):Prop:=
 ∃ lp sp:Nat,e=.returned (.func (.func 99) #[] #[ptr lp,ptr sp])∧zmc w' lp sp LA m lc rs rl rw many A n c∧Below w.heap.size w w'
theorem hasList_any(LA:Option Addr)(m lc:Nat)(rs rl rw many:Int)(A:Option Addr)(n c:Nat)(W:World) :
  CallsIn Fc 0 Tryz.prog 57 #[zga rs rl rw many A n c,.slice LA m lc] W (HandsList LA m lc rs rl rw many A n c W):=by
 gi_enter Tryz.func57,Tryz.ntmps57;gi_wp2;go_ret;exact⟨_,_,rfl,⟨by go_simp,by go_simp,by go_simp,by go_simp,by go_simp,by go_simp⟩,((Below.refl _ _).alloc (Nat.le_refl _) _).alloc (by simp) _⟩
end
section
open Go.RowKit
section
variable {F:Fence}{n:Nat}{P:Program}{ops:Array Oper}{Q:Exit→Act→World→Prop}{md:Region.Mode}
def backB(md:Region.Mode)(ops:Array Oper):Bool:=ops.toList.zipIdx.all fun(o,i)=>o.after.toList.all fun e=>!Region.binds md e || decide (e.on<i)
theorem yia(hb:backB md ops=true){listed:Array Bool}(hr:Region.ready md ops listed=[]):∀ i,i<ops.size→listed.getD i true=true:=by
 intro i
 induction i using Nat.strongRecOn with
 |_ i ih=>
  intro hi;cases hl:listed.getD i true with
  |true=>rfl
  |false=>
   exfalso;have:i∈Region.ready md ops listed:=by
    refine mem_ready.2 ⟨hl,ops[i],by simp[hi],fun e he hbe=>?_⟩;have h1:=List.all_eq_true.1 hb (ops[i],i) (by rw[List.mem_zipIdx_iff_getElem?];simp[hi]);have h2:=List.all_eq_true.1 h1 e (by simpa using he);simp only[hbe,Bool.not_true,Bool.false_or,decide_eq_true_eq] at h2;have h3:=ih e.on h2 (by omega);have hsz:i<listed.size:=by
     rcases Nat.lt_or_ge i listed.size with h|h
     ·exact h
     ·rw[Array.getD_eq_getD_getElem?,Array.getElem?_eq_none h] at hl;simp at hl
    rw[Array.getD_eq_getD_getElem?] at h3 ⊢;rw[Array.getElem?_eq_getElem (by omega)] at h3 ⊢;simpa using h3
   rw[hr] at this;cases this
theorem wpAnyIn_J(hb:backB md ops=true){J:Array Bool→Act→World→Prop}
  (hJ:∀ listed a w i,J listed a w→i∈Region.ready md ops listed→wpOpIn F n P ops Q i (J (listed.setIfInBounds i true)) a w)
  (hE:∀ listed a w,J listed a w→(∀ i,i<ops.size→listed.getD i false=true)→Q .normal a w) :
  ∀(fuel:Nat) (listed:Array Bool) (a:Act) (w:World) (u:List Nat),listed.size=ops.size→J listed a w→u.length≤fuel→(∀ i,i<ops.size→listed.getD i true=false→i∈u)→wpAnyIn F n P md ops Q fuel listed a w:=by
 have conv:∀ listed:Array Bool,listed.size=ops.size→(∀ i,i<ops.size→listed.getD i true=true)→∀ i,i<ops.size→listed.getD i false=true:=by intro listed hs h i hi;have:=h i hi;rw[Array.getD_eq_getD_getElem?] at this ⊢;rw[Array.getElem?_eq_getElem (by omega)] at this ⊢;simpa using this
 intro fuel
 induction fuel with
 |zero=>
  intro listed a w u hs hj hu hc;have hall:∀ i,i<ops.size→listed.getD i true=true:=fun i hi=>by
   cases h:listed.getD i true with
   |true=>rfl
   |false=>have:=hc i hi h;have:=List.length_pos_of_mem this;omega
  refine⟨?_,hE _ _ _ hj (conv _ hs hall)⟩;cases hr:Region.ready md ops listed with
  |nil=>rfl
  |cons i l=>have h1:=mem_ready.1 (hr▸List.mem_cons_self .. : i∈Region.ready md ops listed);obtain⟨h2,o,h3,_⟩:=h1;rw[hall i (Array.getElem?_eq_some_iff.1 h3).1] at h2;cases h2
 |succ fuel ih=>
  intro listed a w u hs hj hu hc;refine⟨fun hr=>hE _ _ _ hj (conv _ hs (yia hb hr)),fun i hi=>?_⟩;have h1:=mem_ready.1 hi;obtain⟨h2,o,h3,_⟩:=h1;have hlt:=(Array.getElem?_eq_some_iff.1 h3).1;have hm:=hc i hlt h2;refine wpOpIn_mono (fun a' w' hj'=>ih _ _ _ (u.erase i) (by simpa using hs) hj' ?_ fun k hk hlk=>?_) (hJ _ _ _ _ hj hi)
  ·rw[List.length_erase_of_mem hm];omega
  ·by_cases e:i=k
   ·subst e;have hsz:i<listed.size:=by
     rcases Nat.lt_or_ge i listed.size with h|h
     ·exact h
     ·rw[Array.getD_eq_getD_getElem?,Array.getElem?_eq_none h] at h2;simp at h2
    rw[Array.getD_eq_getD_getElem?] at hlk;simp[hsz] at hlk
   ·rw[getD_set_ne _ e] at hlk;exact(List.mem_erase_of_ne (fun h=>e h.symm)).2 (hc k hk hlk)
theorem yn{id:Nat}{a:Act}{w:World}(hm:P.follows .mixedOrders=true)(hb:backB .any ops=true){J:Array Bool→Act→World→Prop}
  (h0:J (Array.replicate ops.size false) a {w with drawn:=w.drawn+1})
  (hJ:∀ listed a w i,J listed a w→i∈Region.ready .any ops listed→wpOpIn F n P ops Q i (J (listed.setIfInBounds i true)) a w)
  (hE:∀ listed a w,J listed a w→(∀ i,i<ops.size→listed.getD i false=true)→Q .normal a w):(Code.region id ops true).wpIn F n P Q a w:=
 wpIn_region_any hm (wpAnyIn_J hb hJ hE ops.size _ _ _ (List.range ops.size) (by simp) h0 (by simp) fun i hi _=>List.mem_range.2 hi)
end
end
end Go.Proofs.YtpdmgecbapmgdaaGreat
