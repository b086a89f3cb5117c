/- Ground of proofs about package arrow: it says nothing by itself, without a condition. -/
import GoSem.Core.Lib
import GoSem.Machine.Frame
import GoSem.Dispatch
import Derived.Conc.Events
import Derived.Below
import Derived.WalkKit
set_option linter.unusedSimpArgs false
set_option linter.unusedVariables false
namespace Go.Cx
section
inductive T(α:Type) where
 |e
 |n (l:T α) (v:Option α) (r:T α)
namespace T
variable {α:Type}
def get:T α→Nat→Option α
 |.e,_=>none
 |.n l v r,k=>
  match Nat.beq k 0 with
  |true=>v
  |false=>
   match Nat.beq (Nat.mod k 2) 1 with
   |true=>l.get (Nat.div k 2)
   |false=>r.get (Nat.sub (Nat.div k 2) 1)
def left:T α→T α|.e=>.e|.n l _ _=>l
def right:T α→T α|.e=>.e|.n _ _ r=>r
def here:T α→Option α|.e=>none|.n _ v _=>v
def setF:Nat→T α→Nat→α→T α
 |0,t,_,_=>t
 |f+1,t,k,a=>
  match Nat.beq k 0 with
  |true=>.n t.left (some a) t.right
  |false=>
   match Nat.beq (Nat.mod k 2) 1 with
   |true=>.n (setF f t.left (Nat.div k 2) a) t.here t.right
   |false=>.n t.left t.here (setF f t.right (Nat.sub (Nat.div k 2) 1) a)
def set(t:T α)(k:Nat)(a:α):T α:=setF (k+1) t k a
theorem beq_false{a b:Nat}(h:a≠b):Nat.beq a b=false:=by
 cases e:Nat.beq a b with
 |false=>rfl
 |true=>exact absurd (Nat.eq_of_beq_eq_true e) h
theorem beq_true{a b:Nat}(h:a=b):Nat.beq a b=true:=by subst h;exact Nat.beq_refl a
theorem get_e(k:Nat):(T.e:T α).get k=none:=by simp[get]
theorem get_zero(t:T α):t.get 0=t.here:=by cases t<;>simp[get,here]
theorem get_odd(t:T α)(k:Nat)(h:k % 2=1):t.get k=t.left.get (k / 2):=by
 cases t with
 |e=>simp[get,left]
 |n l v r=>have h0:Nat.beq k 0=false:=beq_false (by omega);have h1:Nat.beq (Nat.mod k 2) 1=true:=beq_true h;simp only[get,left,h0,h1];rfl
theorem get_even(t:T α)(k:Nat)(h0:k≠0)(h:k % 2=0):t.get k=t.right.get (k / 2-1):=by
 cases t with
 |e=>simp[get,right]
 |n l v r=>have h0':Nat.beq k 0=false:=beq_false h0;have h1:Nat.beq (Nat.mod k 2) 1=false:=beq_false (by show k % 2≠1;omega);simp only[get,right,h0',h1];rfl
theorem get_setF(f:Nat):∀(t:T α) (k j:Nat) (a:α),k<f→(setF f t k a).get j=if j=k then some a else t.get j:=by
 induction f with
 |zero=>intro t k j a hk;omega
 |succ f ih=>
  intro t k j a hk;by_cases k0:k=0
  ·subst k0;have e:Nat.beq 0 0=true:=rfl;simp only[setF,e];by_cases j0:j=0
   ·subst j0;simp[get_zero,here]
   ·rw[if_neg j0];by_cases jo:j % 2=1
    ·rw[get_odd _ _ jo,get_odd _ _ jo];rfl
    ·rw[get_even _ _ j0 (by omega),get_even _ _ j0 (by omega)];rfl
  ·have e0:Nat.beq k 0=false:=beq_false k0;by_cases ko:k % 2=1
   ·have e1:Nat.beq (Nat.mod k 2) 1=true:=beq_true ko;simp only[setF,e0,e1];by_cases j0:j=0
    ·subst j0;rw[if_neg (by omega),get_zero,get_zero];rfl
    ·by_cases jo:j % 2=1
     ·rw[get_odd _ _ jo,get_odd t _ jo];show(setF f t.left (k / 2) a).get (j / 2)=_;rw[ih _ _ _ _ (by omega)];by_cases e:j=k
      ·subst e;simp
      ·rw[if_neg (by omega),if_neg e]
     ·rw[get_even _ _ j0 (by omega),get_even t _ j0 (by omega),if_neg (by omega)];rfl
   ·have e1:Nat.beq (Nat.mod k 2) 1=false:=beq_false (by show k % 2≠1;exact ko);simp only[setF,e0,e1];by_cases j0:j=0
    ·subst j0;rw[if_neg (by omega),get_zero,get_zero];rfl
    ·by_cases jo:j % 2=1
     ·rw[get_odd _ _ jo,get_odd t _ jo,if_neg (by omega)];rfl
     ·rw[get_even _ _ j0 (by omega),get_even t _ j0 (by omega)];show(setF f t.right (k / 2-1) a).get (j / 2-1)=_;rw[ih _ _ _ _ (by omega)];by_cases e:j=k
      ·subst e;simp
      ·rw[if_neg (by omega),if_neg e]
theorem get_set(t:T α)(k j:Nat)(a:α):(t.set k a).get j=if j=k then some a else t.get j:=get_setF _ _ _ _ _ (Nat.lt_succ_self k)
theorem get_set_same(t:T α)(k:Nat)(a:α):(t.set k a).get k=some a:=by rw[get_set,if_pos rfl]
theorem get_set_ne(t:T α){k j:Nat}(a:α)(h:j≠k):(t.set k a).get j=t.get j:=by rw[get_set,if_neg h]
end T
end
section
structure Base where
 blk:Nat
 off:Nat
 unit:Nat
 room:Nat
abbrev Inj:=Nat→Option Base
def Inj.le(f g:Inj):Prop:=∀ b x,f b=some x→g b=some x
theorem Inj.le_refl(f:Inj):f.le f:=fun _ _ h=>h
theorem Inj.le_trans{f g k:Inj}(h:f.le g)(h':g.le k):f.le k:=fun b x e=>h' b x (h b x e)
def plainFn:Fn→Bool
 |.yield _=>false
 |_=>true
mutual
inductive VRel(f:Inj):Value→Value→Prop where
 |bool (b:Bool):VRel f (.bool b) (.bool b)
 |int (k:IntKind) (n:Int):VRel f (.int k n) (.int k n)
 |string (s:ByteArray):VRel f (.string s) (.string s)
 |ptrNil:VRel f (.pointer none) (.pointer none)
 |ptr {b off:Nat} {x:Base} (h:f b=some x):VRel f (.pointer (some ⟨b,off,none⟩)) (.pointer (some ⟨x.blk,x.off+off,none⟩))
 |sliceNil (n c:Nat):VRel f (.slice none n c) (.slice none n c)
 |slice {b off n c c':Nat} {x:Base} (h:f b=some x) (hc:c≤c') (he:x.unit=0→c'=c) (hu:x.unit≠0→x.off+off+c'*x.unit≤x.room):VRel f (.slice (some ⟨b,off,none⟩) n c) (.slice (some ⟨x.blk,x.off+off,none⟩) n c')
 |mapNil:VRel f (.map none) (.map none)
 |map {r:Nat} {x:Base} (h:f r=some x):VRel f (.map (some r)) (.map (some x.blk))
 |func {fn:Fn} {a a' c c':Array Value} (hfn:plainFn fn=true) (h1:VsRel f a.toList a'.toList) (h2:VsRel f c.toList c'.toList):VRel f (.func fn a c) (.func fn a' c')
 |yield {l:Nat} {x:Base} (h:f l=some x):VRel f (.func (.yield l) #[] #[]) (.func (.yield x.blk) #[] #[])
 |nilFunc:VRel f .nilFunc .nilFunc
 |nilIface:VRel f .nilIface .nilIface
 |iface (t:TypeId) {v v':Value} (h:VRel f v v'):VRel f (.iface t v) (.iface t v')
 |agg {a a':Array Value} (h:VsRel f a.toList a'.toList):VRel f (.agg a) (.agg a')
 |tuple {a a':Array Value} (h:VsRel f a.toList a'.toList):VRel f (.tuple a) (.tuple a')
inductive VsRel(f:Inj):List Value→List Value→Prop where
 |nil:VsRel f [] []
 |cons {v v':Value} {l l':List Value} (h:VRel f v v') (t:VsRel f l l'):VsRel f (v::l) (v'::l')
end
mutual
theorem VRel.mono{f g:Inj}(hfg:f.le g):∀{v v':Value},VRel f v v'→VRel g v v'
 |_,_,.bool b=>.bool b
 |_,_,.int k n=>.int k n
 |_,_,.string s=>.string s
 |_,_,.ptrNil=>.ptrNil
 |_,_,.ptr h=>.ptr (hfg _ _ h)
 |_,_,.sliceNil n c=>.sliceNil n c
 |_,_,.slice h hc he hu=>.slice (hfg _ _ h) hc he hu
 |_,_,.mapNil=>.mapNil
 |_,_,.map h=>.map (hfg _ _ h)
 |_,_,.func hfn h1 h2=>.func hfn (h1.mono hfg) (h2.mono hfg)
 |_,_,.yield h=>.yield (hfg _ _ h)
 |_,_,.nilFunc=>.nilFunc
 |_,_,.nilIface=>.nilIface
 |_,_,.iface t h=>.iface t (h.mono hfg)
 |_,_,.agg h=>.agg (h.mono hfg)
 |_,_,.tuple h=>.tuple (h.mono hfg)
theorem VsRel.mono{f g:Inj}(hfg:f.le g):∀{l l':List Value},VsRel f l l'→VsRel g l l'
 |_,_,.nil=>.nil
 |_,_,.cons h t=>.cons (h.mono hfg) (t.mono hfg)
end
theorem VsRel.length{f:Inj}:∀{l l':List Value},VsRel f l l'→l.length=l'.length
 |_,_,.nil=>rfl
 |_,_,.cons _ t=>by simp[t.length]
theorem VsRel.append{f:Inj}:∀{l l' m m':List Value},VsRel f l l'→VsRel f m m'→VsRel f (l++m) (l'++m')
 |_,_,_,_,.nil,h=>h
 |_,_,_,_,.cons h t,h'=>.cons h (t.append h')
theorem VsRel.get{f:Inj}:∀{l l':List Value} (i:Nat) {v:Value},VsRel f l l'→l[i]? = some v→∃ v',l'[i]? = some v'∧VRel f v v'
 |_,_,i,_,.nil,h=>by simp at h
 |_,_,0,_,.cons (v':=v') h _,e=>by simp at e;subst e;exact⟨v',rfl,h⟩
 |_,_,i+1,_,.cons _ t,e=>by have:=t.get i (by simpa using e);simpa using this
theorem VsRel.get'{f:Inj}{l l':List Value}(i:Nat)(h:VsRel f l l'):(l[i]? = none∧l'[i]? = none)∨∃ v v',l[i]? = some v∧l'[i]? = some v'∧VRel f v v':=by
 cases e:l[i]? with
 |none=>refine .inl ⟨rfl,?_⟩;have:=h.length;rw[List.getElem?_eq_none_iff] at e ⊢;omega
 |some v=>obtain⟨v',h1,h2⟩:=h.get i e;exact .inr ⟨v,v',rfl,h1,h2⟩
theorem VsRel.take{f:Inj}:∀(n:Nat) {l l':List Value},VsRel f l l'→VsRel f (l.take n) (l'.take n)
 |0,_,_,_=>by simpa using .nil
 |_+1,_,_,.nil=>by simpa using .nil
 |n+1,_,_,.cons h t=>by simpa using VsRel.cons h (t.take n)
theorem VsRel.drop{f:Inj}:∀(n:Nat) {l l':List Value},VsRel f l l'→VsRel f (l.drop n) (l'.drop n)
 |0,_,_,h=>by simpa using h
 |_+1,_,_,.nil=>by simpa using .nil
 |n+1,_,_,.cons _ t=>by simpa using t.drop n
theorem VsRel.of_get{f:Inj}:∀{l l':List Value},l.length=l'.length→(∀(i:Nat) (v v':Value),l[i]? = some v→l'[i]? = some v'→VRel f v v')→VsRel f l l'
 | [],[],_,_=>.nil
 | [],_::_,h,_=>by simp at h
 |_::_,[],h,_=>by simp at h
 |a::l,b::l',h,hg=>.cons (hg 0 a b rfl rfl) (VsRel.of_get (by simpa using h) fun i v v' e e'=>hg (i+1) v v' (by simpa using e) (by simpa using e'))
theorem VsRel.set{f:Inj}{v v':Value}(hv:VRel f v v'):∀(i:Nat) {l l':List Value},VsRel f l l'→VsRel f (l.set i v) (l'.set i v')
 |_,_,_,.nil=>by simpa using .nil
 |0,_,_,.cons _ t=>by simpa using VsRel.cons hv t
 |i+1,_,_,.cons h t=>by simpa using VsRel.cons h (t.set hv i)
def closed:Nat→Value→Bool
 |0,_=>false
 |n+1,v=>
  match v with
  |.bool _|.int _ _|.string _|.pointer none|.slice none _ _|.map none|.nilFunc|.nilIface=>true
  |.func fn a c=>plainFn fn&&a.toList.all (closed n)&&c.toList.all (closed n)
  |.iface _ v=>closed n v
  |.agg a=>a.toList.all (closed n)
  |.tuple a=>a.toList.all (closed n)
  |_=>false
theorem VsRel.refl_all{f:Inj}{p:Value→Bool}(h:∀ v,p v=true→VRel f v v):∀ l:List Value,l.all p=true→VsRel f l l
 | [],_=>.nil
 |v::l,e=>by simp only[List.all_cons,Bool.and_eq_true] at e;exact .cons (h v e.1) (VsRel.refl_all h l e.2)
theorem zB{f:Inj}:∀(n:Nat) (v:Value),closed n v=true→VRel f v v
 |0,_,h=>by simp[closed] at h
 |n+1,v,h=>by
  have ih:=fun v=>zB (f:=f) n v
  cases v with
  |bool b=>exact .bool b
  |int k n=>exact .int k n
  |string s=>exact .string s
  |pointer a=>cases a with
   |none=>exact .ptrNil
   |some a=>simp[closed] at h
  |slice a n c=>cases a with
   |none=>exact .sliceNil n c
   |some a=>simp[closed] at h
  |map a=>cases a with
   |none=>exact .mapNil
   |some a=>simp[closed] at h
  |nilFunc=>exact .nilFunc
  |nilIface=>exact .nilIface
  |func fn a c=>simp only[closed,Bool.and_eq_true] at h;exact .func h.1.1 (VsRel.refl_all ih _ h.1.2) (VsRel.refl_all ih _ h.2)
  |iface t v=>simp only[closed] at h;exact .iface t (ih v h)
  |agg a=>simp only[closed] at h;exact .agg (VsRel.refl_all ih _ h)
  |tuple a=>simp only[closed] at h;exact .tuple (VsRel.refl_all ih _ h)
  |float k b=>simp[closed] at h
  |complex k a b=>simp[closed] at h
  |chan a=>simp[closed] at h
mutual
theorem VRel.eq_of_closed{f:Inj}:∀{n:Nat} {v v':Value},VRel f v v'→closed n v=true→v'=v
 |0,_,_,_,h=>by simp[closed] at h
 |_+1,_,_,.bool b,_=>rfl
 |_+1,_,_,.int k n,_=>rfl
 |_+1,_,_,.string s,_=>rfl
 |_+1,_,_,.ptrNil,_=>rfl
 |_+1,_,_,.ptr _,h=>by simp[closed] at h
 |_+1,_,_,.sliceNil n c,_=>rfl
 |_+1,_,_,.slice _ _ _ _,h=>by simp[closed] at h
 |_+1,_,_,.mapNil,_=>rfl
 |_+1,_,_,.map _,h=>by simp[closed] at h
 |n+1,_,_,.func (fn:=fn) (a:=a) (a':=a') (c:=c) (c':=c') _ h1 h2,h=>by simp only[closed,Bool.and_eq_true] at h;have e1:=h1.eq_of_closed h.1.2;have e2:=h2.eq_of_closed h.2;rw[Array.toList_inj] at e1 e2;rw[e1,e2]
 |_+1,_,_,.yield _,h=>by simp[closed,plainFn] at h
 |_+1,_,_,.nilFunc,_=>rfl
 |_+1,_,_,.nilIface,_=>rfl
 |n+1,_,_,.iface t h1,h=>by simp only[closed] at h;rw[h1.eq_of_closed h]
 |n+1,_,_,.agg h1,h=>by simp only[closed] at h;have e1:=h1.eq_of_closed h;rw[Array.toList_inj] at e1;rw[e1]
 |n+1,_,_,.tuple h1,h=>by simp only[closed] at h;have e1:=h1.eq_of_closed h;rw[Array.toList_inj] at e1;rw[e1]
theorem VsRel.eq_of_closed{f:Inj}:∀{n:Nat} {l l':List Value},VsRel f l l'→l.all (closed n)=true→l'=l
 |_,_,_,.nil,_=>rfl
 |n,_,_,.cons h t,e=>by simp only[List.all_cons,Bool.and_eq_true] at e;rw[h.eq_of_closed e.1,t.eq_of_closed e.2]
end
end
section
structure ALoop where
 state:LoopState
 pending:Option Code
 fn:FuncId
 nt:Nat
 tmps:T Value
 params:Array Tmp
 assign:Code
 body:Code
 defers:Nat
inductive AObj where
 |cells (c:List (Option Value)) (unit:Nat) (root base:Nat) (mem:List Nat)
 |map (es:List (Value×Value))
 |loop (l:ALoop)
 |deferred (ds:Option (List Deferred))
structure AHeap where
 objs:T AObj
 next:Nat
 lo:Nat
 wl:List (Nat×Nat×Nat)
 no:Nat
def AHeap.put(h:AHeap)(b:Nat)(o:AObj):AHeap:={h with objs:=h.objs.set b o}
def AHeap.alloc(h:AHeap)(o:AObj):AHeap:={h with objs:=h.objs.set h.next o,next:=Nat.succ h.next}
def inList(b off n:Nat):List (Nat×Nat×Nat)→Bool
 | []=>false
 |(b',o',n')::l=>(Nat.beq b b'&&Nat.ble o' off&&Nat.ble (Nat.add off n) (Nat.add o' n')) || inList b off n l
def AHeap.owns(h:AHeap)(b:Nat):Bool:=Nat.ble h.lo b&&not (Nat.beq b h.no)
def AHeap.canW(h:AHeap)(b off n:Nat):Bool:=h.owns b || inList b off n h.wl
def takeOpt:List (Option Value)→Nat→Option (List Value)
 |_,0=>some []
 | [],_+1=>none
 |o::vs,n+1=>
  match o with
  |none=>none
  |some v=>match takeOpt vs n with|some l=>some (v::l)|none=>none
def dropN{α:Type}:List α→Nat→List α
 |l,0=>l
 | [],_+1=>[]
 |_::l,n+1=>dropN l n
def AHeap.read(h:AHeap)(b off n:Nat):Option (List Value):=
 match h.objs.get b with
 |some (.cells c ..)=>takeOpt (dropN c off) n
 |_=>none
def writeAt:List (Option Value)→Nat→List Value→Option (List (Option Value))
 |c,_,[]=>some c
 | [],_,_::_=>none
 |_::xs,0,v::vs=>match writeAt xs 0 vs with|some l=>some (some v::l)|none=>none
 |x::xs,n+1,v::vs=>match writeAt xs n (v::vs) with|some l=>some (x::l)|none=>none
def forget:List (Option Value)→Nat→Nat→List (Option Value)
 |c,_,0=>c
 | [],_,_+1=>[]
 |_::xs,0,n+1=>none::forget xs 0 n
 |x::xs,i+1,n+1=>x::forget xs i (n+1)
def zVb(p n but:Nat):List Nat→T AObj→T AObj
 | [],t=>t
 |m::ms,t=>
  zVb p n but ms <|
   match Nat.beq m but with
   |true=>t
   |false=>
    match t.get m with
    |some (.cells c x r b mem)=>t.set m (.cells (forget c (p-b) (n-(b-p))) x r b mem)
    |_=>t
def members(t:T AObj)(r:Nat):List Nat:=
 match t.get r with
 |some (.cells _ _ _ _ mem)=>mem
 |_=>[]
def one(v:Value):Bool:=
 match v with
 |.agg _|.tuple _=>false
 |_=>true
def AHeap.write(h:AHeap)(b off:Nat)(vs:List Value):Option AHeap:=
  match h.canW b off vs.length&&vs.all one,h.objs.get b with
  |true,some (.cells c x r base mem)=>
    match writeAt c off vs with
    |some c'=>
      some {h with objs:=
        (let t:=zVb (base+off) vs.length b (members h.objs r) h.objs
         match t.get b with
         |some (.cells _ _ _ _ mem')=>t.set b (.cells c' x r base mem')
         |_=>t.set b (.cells c' x r base mem))}
    |none=>none
  |_,_=>none
def AHeap.row(h:AHeap)(vs:List Value)(unit:Nat):AHeap:=h.alloc (.cells (vs.map some) unit h.next 0 [h.next])
def locBlk:Loc→Option Nat
 |.cell a=>some a.block
 |.obj r=>some r
 |_=>none
abbrev cellAt(b off:Nat):Loc:=.cell ⟨b,off,none⟩
def zob(K:Loc→Prop)(b:Nat)(w w':World):Prop:=
 ∀ o,w.heap[b]? = some o →
  match o with
  |.cells c e fr=>∃ c',w'.heap[b]? = some (.cells c' e fr)∧c'.size=c.size∧∀ i,K (cellAt b i)→c'[i]? = c[i]?
  |o=>K (.obj b)→w'.heap[b]? = some o
theorem zob.refl(K:Loc→Prop)(b:Nat)(w:World):zob K b w w:=by intro o h;cases o<;>simp only[]<;>first|exact⟨_,h,rfl,fun _ _=>rfl⟩|exact fun _=>h
theorem zob.mono{K K':Loc→Prop}{b:Nat}{w w':World}(hK:∀ l,K' l→K l)(h:zob K b w w'):zob K' b w w':=by intro o e;have:=h o e;cases o<;>simp only[] at this ⊢<;>first|(obtain⟨c',h1,h2,h3⟩:=this;exact⟨c',h1,h2,fun i hi=>h3 i (hK _ hi)⟩)|exact fun hk=>this (hK _ hk)
theorem zob.trans{K:Loc→Prop}{b:Nat}{w w' w'':World}(h:zob K b w w')(h':zob K b w' w''):zob K b w w'':=by
  intro o e;have h1:=h o e;cases o<;>simp only[] at h1 ⊢<;>first
    | (obtain⟨c',e1,e2,e3⟩:=h1
       obtain⟨c'',d1,d2,d3⟩:=h' _ e1;exact⟨c'',d1,d2.trans e2,fun i hi=>(d3 i hi).trans (e3 i hi)⟩)
    |(intro hk;exact h' _ (h1 hk) hk)
structure Env(K:Loc→Prop)(w w':World):Prop where
 size:w.heap.size≤w'.heap.size
 tape:w'.tape=w.tape
 os:w'.os=w.os
 output:w'.output=w.output
 same:∀ b,zob K b w w'
theorem Env.refl(K:Loc→Prop)(w:World):Env K w w:=⟨Nat.le_refl _,rfl,rfl,rfl,fun b=>.refl K b w⟩
theorem Env.trans{K:Loc→Prop}{w w' w'':World}(h:Env K w w')(h':Env K w' w''):Env K w w'':=
 ⟨Nat.le_trans h.size h'.size,h'.tape.trans h.tape,h'.os.trans h.os,h'.output.trans h.output,fun b=>(h.same b).trans (h'.same b)⟩
theorem Env.mono{K K':Loc→Prop}{w w':World}(hK:∀ l,K' l→K l)(h:Env K w w'):Env K' w w':=⟨h.size,h.tape,h.os,h.output,fun b=>(h.same b).mono hK⟩
def EvIn(Mi Sh:Loc→Prop)(e:Event):Prop:=e=⟨.mark .noRoom,false,true⟩∨(e.sync=false∧(Mi e.loc∨(e.write=false∧Sh e.loc)))
structure Did(Mi Sh:Loc→Prop)(w w':World)(es:Array Event)(Mi':Loc→Prop):Prop where
 env:Env (fun l=>¬ Mi l) w w'
 mine:∀ l,Mi' l↔Mi l∨∃ b,locBlk l=some b∧w.heap.size≤b∧b<w'.heap.size
 evs:∀ e∈es,EvIn Mi' Sh e
inductive MRel(f:Inj):List (Value×Value)→List MapEntry→Prop where
 |nil:MRel f [] []
 |cons {k v:Value} {e:MapEntry} {l:List (Value×Value)} {l':List MapEntry} (hk:VRel f k e.key) (hv:VRel f v e.val) (t:MRel f l l'):MRel f ((k,v)::l) (e::l')
inductive DRel(f:Inj):Deferred→Deferred→Prop where
 |fn {fn:Fn} {c c' a a':Array Value} (hfn:plainFn fn=true) (h1:VsRel f c.toList c'.toList) (h2:VsRel f a.toList a'.toList):DRel f ⟨.fn fn c,a⟩ ⟨.fn fn c',a'⟩
 |collected {r:Nat} {x:Base} (h:f r=some x):DRel f ⟨.collected r,#[]⟩ ⟨.collected x.blk,#[]⟩
inductive DsRel(f:Inj):List Deferred→List Deferred→Prop where
 |nil:DsRel f [] []
 |cons {d d':Deferred} {l l':List Deferred} (h:DRel f d d') (t:DsRel f l l'):DsRel f (d::l) (d'::l')
def TRel(f:Inj)(t:T Value)(a:Array Value):Prop:=∀ i,VRel f ((t.get i).getD undef) (a.getD i undef)
structure LRel(f:Inj)(l:ALoop)(l':Loop):Prop where
 state:l'.state=l.state
 pending:l'.pending=l.pending
 fn:l'.fn=l.fn
 size:l'.tmps.size=l.nt
 tmps:TRel f l.tmps l'.tmps
 params:l'.params=l.params
 assign:l'.assign=l.assign
 body:l'.body=l.body
 defers:∃ x,f l.defers=some x∧l'.defers=x.blk
def ORel(f:Inj)(K:Loc→Prop)(x:Base)(o:AObj)(w:World):Prop:=
 match o with
 |.cells c un _ _ _=>x.unit=un∧∃ rc e,w.heap[x.blk]? = some (.cells rc e (0,0))∧rc.size=x.room∧x.off+c.length≤rc.size ∧
   ∀ i v,c[i]? = some (some v)→K (cellAt x.blk (x.off+i))∧∃ v',rc[x.off+i]? = some v'∧VRel f v v'
 |.map es=>x.off=0∧K (.obj x.blk)∧∃ es' clock,w.heap[x.blk]? = some (.map es' clock)∧MRel f es es'.toList
 |.loop l=>x.off=0∧K (.obj x.blk)∧∃ l',w.heap[x.blk]? = some (.loop l')∧LRel f l l'
 |.deferred none=>x.off=0∧K (.obj x.blk)∧w.heap[x.blk]? = some (.deferred none)
 |.deferred (some ds)=>x.off=0∧K (.obj x.blk)∧∃ ds',w.heap[x.blk]? = some (.deferred (some ds'))∧DsRel f ds ds'
theorem MRel.mono{f g:Inj}(hfg:f.le g):∀{l l'},MRel f l l'→MRel g l l'
 |_,_,.nil=>.nil
 |_,_,.cons hk hv t=>.cons (hk.mono hfg) (hv.mono hfg) (t.mono hfg)
theorem DRel.mono{f g:Inj}(hfg:f.le g):∀{d d'},DRel f d d'→DRel g d d'
 |_,_,.fn hfn h1 h2=>.fn hfn (h1.mono hfg) (h2.mono hfg)
 |_,_,.collected h=>.collected (hfg _ _ h)
theorem DsRel.mono{f g:Inj}(hfg:f.le g):∀{l l'},DsRel f l l'→DsRel g l l'
 |_,_,.nil=>.nil
 |_,_,.cons h t=>.cons (h.mono hfg) (t.mono hfg)
theorem TRel.mono{f g:Inj}(hfg:f.le g){t:T Value}{a:Array Value}(h:TRel f t a):TRel g t a:=fun i=>(h i).mono hfg
theorem LRel.mono{f g:Inj}(hfg:f.le g){l:ALoop}{l':Loop}(h:LRel f l l'):LRel g l l':=
 ⟨h.state,h.pending,h.fn,h.size,h.tmps.mono hfg,h.params,h.assign,h.body,let⟨x,e,e'⟩:=h.defers;⟨x,hfg _ _ e,e'⟩⟩
theorem ORel.mono{f g:Inj}(hfg:f.le g){K K':Loc→Prop}(hK:∀ l,K l→K' l){x:Base}{o:AObj}{w:World}(h:ORel f K x o w):ORel g K' x o w:=by
 match o,h with
 |.cells c ex _ _ _,⟨h0,rc,e,h1,hz,h2,h3⟩=>exact⟨h0,rc,e,h1,hz,h2,fun i v hi=>let⟨a,v',b,c⟩:=h3 i v hi;⟨hK _ a,v',b,c.mono hfg⟩⟩
 |.map es,⟨h0,h1,es',clock,h2,h3⟩=>exact⟨h0,hK _ h1,es',clock,h2,h3.mono hfg⟩
 |.loop l,⟨h0,h1,l',h2,h3⟩=>exact⟨h0,hK _ h1,l',h2,h3.mono hfg⟩
 |.deferred none,⟨h0,h1,h2⟩=>exact⟨h0,hK _ h1,h2⟩
 |.deferred (some ds),⟨h0,h1,ds',h2,h3⟩=>exact⟨h0,hK _ h1,ds',h2,h3.mono hfg⟩
theorem ORel.env{f:Inj}{K K':Loc→Prop}{x:Base}{o:AObj}{w w':World}(h:ORel f K x o w)(hs:zob K' x.blk w w')(hK:∀ l,K l→K' l):ORel f K x o w':=by
 match o,h with
 |.cells c ex _ _ _,⟨h0,rc,e,h1,hz,h2,h3⟩=>obtain⟨rc',g1,g2,g3⟩:=hs _ h1;refine⟨h0,rc',e,g1,by omega,by omega,fun i v hi=>?_⟩;obtain⟨a,v',b,c⟩:=h3 i v hi;exact⟨a,v',by rw[g3 _ (hK _ a)];exact b,c⟩
 |.map es,⟨h0,h1,es',clock,h2,h3⟩=>exact⟨h0,h1,es',clock,hs _ h2 (hK _ h1),h3⟩
 |.loop l,⟨h0,h1,l',h2,h3⟩=>exact⟨h0,h1,l',hs _ h2 (hK _ h1),h3⟩
 |.deferred none,⟨h0,h1,h2⟩=>exact⟨h0,h1,hs _ h2 (hK _ h1)⟩
 |.deferred (some ds),⟨h0,h1,ds',h2,h3⟩=>exact⟨h0,h1,ds',hs _ h2 (hK _ h1),h3⟩
theorem ORel.lt{f:Inj}{K:Loc→Prop}{x:Base}{o:AObj}{w:World}(h:ORel f K x o w):x.blk<w.heap.size:=by
 have:∃ y,w.heap[x.blk]? = some y:=by
  match o,h with
  |.cells c ex _ _ _,⟨_,rc,e,h1,_,_,_⟩=>exact⟨_,h1⟩
  |.map es,⟨_,_,es',clock,h2,_⟩=>exact⟨_,h2⟩
  |.loop l,⟨_,_,l',h2,_⟩=>exact⟨_,h2⟩
  |.deferred none,⟨_,_,h2⟩=>exact⟨_,h2⟩
  |.deferred (some ds),⟨_,_,ds',h2,_⟩=>exact⟨_,h2⟩
 obtain⟨y,e⟩:=this;obtain⟨h,-⟩:=Array.getElem?_eq_some_iff.1 e;exact h
def rootOf(b:Nat):AObj→Nat
 |.cells _ _ r _ _=>r
 |_=>b
def baseOf:AObj→Nat
 |.cells _ _ _ b _=>b
 |_=>0
structure WF(h:AHeap):Prop where
 lt:∀ b o,h.objs.get b=some o→b<h.next
 mem:∀ b c x r ba m,h.objs.get b=some (.cells c x r ba m)→b∈members h.objs r∧r≤b∧∃ c' x' m',h.objs.get r=some (.cells c' x' r 0 m')
 kin:∀ r m,m∈members h.objs r→∃ c x ba mem,h.objs.get m=some (.cells c x r ba mem)
structure HRel(f:Inj)(K Mi:Loc→Prop)(h:AHeap)(w:World):Prop where
 wf:WF h
 obj:∀ b x,f b=some x→∃ o,h.objs.get b=some o∧ORel f K x o w
 mine:∀ b x,f b=some x→h.owns b=true→∀ l,locBlk l=some x.blk→Mi l
 part:∀ b x i,f b=some x→inList b i 1 h.wl=true→Mi (cellAt x.blk (x.off+i))
 apart:∀ b b' x x' o o',f b=some x→f b'=some x'→h.objs.get b=some o→h.objs.get b'=some o'→rootOf b o≠rootOf b' o'→x.blk≠x'.blk
 coord:∀ b b' x x' o o',f b=some x→f b'=some x'→h.objs.get b=some o→h.objs.get b'=some o'→rootOf b o=rootOf b' o'→x.blk=x'.blk→x.off+baseOf o'=x'.off+baseOf o
 home:∀ b x,f b=some x→K (.obj x.blk)
theorem HRel.env{f:Inj}{K Mi:Loc→Prop}{h:AHeap}{w w':World}(hr:HRel f K Mi h w)(he:Env K w w'):HRel f K Mi h w':=
 {wf:=hr.wf,obj:=fun b x e=>let⟨o,e1,e2⟩:=hr.obj b x e;⟨o,e1,e2.env (he.same _) fun _ h=>h⟩,mine:=hr.mine,part:=hr.part,apart:=hr.apart,coord:=hr.coord,home:=hr.home}
end
section
structure Tab where
 types:T TypeInfo
 funcs:T Func
 prog:Program
structure TabOk(p:Tab):Prop where
 types:∀ t i,p.types.get t=some i→p.prog.info? t=some i
 funcs:∀ f fn,p.funcs.get f=some fn→p.prog.funcs[f]? = some fn
 num:∀ f fn,p.funcs.get f=some fn→¬ fn.name = "runtime.NumGoroutine"
def Tab.desc(p:Tab)(t:TypeId):Option TypeDesc:=
 match p.types.get t with
 |some i=>
  match i.desc with
  |.named _ u=>match p.types.get u with
   |some j=>some j.desc
   |none=>none
  |d=>some d
 |none=>none
def Tab.size(p:Tab)(t:TypeId):Option Nat:=match p.types.get t with|some i=>some i.size|none=>none
def Tab.bytes(p:Tab)(t:TypeId):Option Nat:=match p.types.get t with|some i=>some i.bytes|none=>none
def zY:Nat:=6
def Tab.zero(p:Tab)(t:TypeId):Option Value:=
 match p.types.get t with
 |some i=>match i.zero with
  |some z=>match closed zY z with|true=>some z|false=>none
  |none=>none
 |none=>none
def Tab.isAgg(p:Tab)(t:TypeId):Option Bool:=
 match p.desc t with
 |some (.struct _)|some (.array _ _)=>some true
 |some _=>some false
 |none=>none
def pureIn(P:Program){α:Type}:Sem α→Option α
 |.pure a=>some a
 |.program k=>pureIn P (k P)
 |_=>none
abbrev Ev:=Operand→Option Value
def ev(t:T Value):Ev
 |.tmp i=>some (match t.get i with|some v=>v|none=>undef)
 |.const v=>match closed zY v with|true=>some v|false=>none
 |.global _=>none
 |.func g=>some (.func (.func g) #[] #[])
def clo(v:Value):Option Value:=match closed zY v with|true=>some v|false=>none
abbrev Out:=Option (Value×AHeap)
def oLoad(p:Tab)(h:AHeap)(t:TypeId)(a:Value):Out:=
 match a with
 |.pointer (some ⟨b,off,none⟩)=>
  match p.isAgg t,p.size t with
  |some true,some n=>match h.read b off n with|some l=>some (.agg l.toArray,h)|none=>none
  |some false,_=>match h.read b off 1 with|some [v]=>some (v,h)|_=>none
  |_,_=>none
 |_=>none
def oStore(p:Tab)(h:AHeap)(t:TypeId)(a v:Value):Out:=
 match a with
 |.pointer (some ⟨b,off,none⟩)=>
  match p.size t with
  |some n=>match Nat.beq v.cells.toList.length n with
   |true=>match h.write b off v.cells.toList with|some h=>some (undef,h)|none=>none
   |false=>none
  |none=>none
 |_=>none
def oAlloc(p:Tab)(h:AHeap)(t:TypeId):Out:=
 match p.zero t with
 |some z=>some (.pointer (some ⟨h.next,0,none⟩),h.row z.cells.toList 0)
 |none=>none
def oBox(h:AHeap)(v:Value):Out:=some (.pointer (some ⟨h.next,0,none⟩),h.row v.cells.toList 0)
def oFieldAddr(p:Tab)(h:AHeap)(s:TypeId)(a:Value)(i:Nat):Out:=
 match a,p.desc s with
 |.pointer (some ⟨b,off,none⟩),some (.struct fs)=>
  match fs.toList[i]? with
  |some f=>match p.size f.type with
   |some (_+1)=>some (.pointer (some ⟨b,Nat.add off f.offset,none⟩),h)
   |_=>none
  |none=>none
 |_,_=>none
def oIndexAddr(p:Tab)(h:AHeap)(t:TypeId)(x i:Value):Out:=
 match i with
 |.int _ (.ofNat i)=>
  match p.desc t,x with
  |some (.array len e),.pointer (some ⟨b,off,none⟩)=>
   match Nat.blt i len,p.size e with
   |true,some s=>some (.pointer (some ⟨b,Nat.add off (Nat.mul i s),none⟩),h)
   |_,_=>none
  |some (.slice e),.slice (some ⟨b,off,none⟩) len _=>
   match Nat.blt i len,p.size e with
   |true,some s=>some (.pointer (some ⟨b,Nat.add off (Nat.mul i s),none⟩),h)
   |_,_=>none
  |_,_=>none
 |_=>none
def oPart(p:Tab)(t:TypeId)(cs:List Value)(off:Nat):Option Value:=
 match p.isAgg t,p.size t with
 |some true,some n=>some (.agg ((cs.drop off).take n).toArray)
 |some false,_=>cs[off]?
 |_,_=>none
def oField(p:Tab)(h:AHeap)(t:TypeId)(x:Value)(i:Nat):Out:=
 match x,p.desc t with
 |.agg cs,some (.struct fs)=>
  match fs.toList[i]? with
  |some f=>match oPart p f.type cs.toList f.offset with|some v=>some (v,h)|none=>none
  |none=>none
 |_,_=>none
def oIndex(p:Tab)(h:AHeap)(t:TypeId)(x i:Value):Out:=
 match i with
 |.int _ (.ofNat i)=>
  match x,p.desc t with
  |.agg cs,some (.array len e)=>
   match Nat.blt i len,p.size e with
   |true,some s=>match oPart p e cs.toList (Nat.mul i s) with|some v=>some (v,h)|none=>none
   |_,_=>none
  |.string s,some .string=>match s[i]? with|some b=>some (.int .u8 b.toNat,h)|none=>none
  |_,_=>none
 |_=>none
def oExtract(h:AHeap)(x:Value)(i:Nat):Out:=
 match x with
 |.tuple vs=>match vs.toList[i]? with|some v=>some (v,h)|none=>none
 |_=>none
def znc(d:TypeDesc)(a b:Value):Bool:=
 match d,a,b with
 |.pointer _,.pointer none,.pointer (some _)|.pointer _,.pointer (some _),.pointer none=>true
 |.slice _,.slice none _ _,.slice (some _) _ _|.slice _,.slice (some _) _ _,.slice none _ _=>true
 |.map _ _,.map none,.map (some _)|.map _ _,.map (some _),.map none=>true
 |.func _ _ _,.nilFunc,.func _ _ _|.func _ _ _,.func _ _ _,.nilFunc=>true
 |_,_,_=>false
def oBin(p:Tab)(h:AHeap)(op:BinOp)(t:TypeId)(x y:Operand)(a b:Value):Out:=
 match closed zY a,closed zY b with
 |true,true=>match pureIn p.prog (do eqGuard op t x y a b;binOp op t a b) with
  |some v=>match closed zY v with|true=>some (v,h)|false=>none
  |none=>none
 |_,_=>match p.desc t with
  |some d=>match op,znc d a b with
   |.eql,true=>some (.bool false,h)
   |.neq,true=>some (.bool true,h)
   |_,_=>none
  |none=>none
def oUn(p:Tab)(h:AHeap)(op:UnOp)(a:Value):Out:=
 match closed zY a with
 |true=>match pureIn p.prog (Op.unary op a) with
  |some v=>match closed zY v with|true=>some (v,h)|false=>none
  |none=>none
 |_=>none
def oConv(p:Tab)(h:AHeap)(s t:TypeId)(a:Value):Out:=
 match closed zY a with
 |true=>match pureIn p.prog (convert s t a) with
  |some v=>match closed zY v with|true=>some (v,h)|false=>none
  |none=>none
 |_=>none
def evAll(e:Ev):List Operand→Option (List Value)
 | []=>some []
 |x::xs=>match e x,evAll e xs with|some v,some l=>some (v::l)|_,_=>none
def evParts(e:Ev):List (Nat×Operand)→Option (List (Nat×Value))
 | []=>some []
 |(i,x)::xs=>match e x,evParts e xs with|some v,some l=>some ((i,v)::l)|_,_=>none
def oMakeFunc(h:AHeap)(fn:Fn)(a c:List Value):Out:=
 match plainFn fn with
 |true=>some (.func fn a.toArray c.toArray,h)
 |false=>none
end
section
theorem add_plain(b off n:Nat):(⟨b,off,none⟩:Addr).add n=⟨b,off+n,none⟩:=by
 unfold Addr.add;split
 ·next h=>subst h;rfl
 ·rfl
theorem cell?_plain{w:World}{b off:Nat}{c:Array Value}{e:TypeId}{fr:Nat×Nat}(h:w.heap[b]? = some (.cells c e fr)):w.cell? ⟨b,off,none⟩=c[off]?:=by simp[World.cell?,h]
theorem frozen?_plain{w:World}{b off:Nat}{c:Array Value}{e:TypeId}(h:w.heap[b]? = some (.cells c e (0,0))):w.frozen? ⟨b,off,none⟩=false:=by simp[World.frozen?,h]
theorem loadCellsFrom_run(P:Program){w:World}{b off:Nat}{c:Array Value}{e:TypeId}{fr:Nat×Nat}(h:w.heap[b]? = some (.cells c e fr)) :
  ∀(n i:Nat) (acc:Array Value) (vs:List Value),vs.length=n→(∀(j:Nat) (v:Value),vs[j]? = some v→c[off+i+j]? = some v) →
   (loadCellsFrom ⟨b,off,none⟩ i n acc).run P w=.ok (acc++vs.toArray) w
 |0,i,acc,vs,hl,_=>by obtain rfl:vs=[]:=List.length_eq_zero_iff.1 hl;simp[loadCellsFrom]
 |n+1,i,acc,[],hl,_=>by simp at hl
 |n+1,i,acc,v::vs,hl,hv=>by have h0:=hv 0 v rfl;simp only[Nat.add_zero] at h0;simp only[loadCellsFrom,Sem.run_bind,run_load,add_plain,cell?_plain h,h0,Result.andThen_ok];rw[loadCellsFrom_run P h n (i+1) _ vs (by simpa using hl) (fun j v' e=>by have:=hv (j+1) v' (by simpa using e);rwa [show off+(i+1)+j=off+i+(j+1) by omega])];simp
theorem loadCellsFrom_events(P:Program){w:World}{b off:Nat}{c:Array Value}{e:TypeId}{fr:Nat×Nat}(h:w.heap[b]? = some (.cells c e fr)) :
  ∀(n i:Nat) (acc:Array Value) (vs:List Value) (es:Array Event),vs.length=n→(∀(j:Nat) (v:Value),vs[j]? = some v→c[off+i+j]? = some v) →
   ∀ ev∈(loadCellsFrom ⟨b,off,none⟩ i n acc).events P w es,ev∈es∨∃ j<n,ev=⟨cellAt b (off+i+j),false,false⟩
 |0,i,acc,vs,es,hl,_=>by intro ev hev;simp[loadCellsFrom] at hev;exact .inl hev
 |n+1,i,acc,[],es,hl,_=>by simp at hl
 |n+1,i,acc,v::vs,es,hl,hv=>by
  have h0:=hv 0 v rfl;simp only[Nat.add_zero] at h0;intro ev hev;simp only[loadCellsFrom,Sem.events_bind,run_load,events_load,add_plain,cell?_plain h,h0,Result.evThen_ok] at hev;rcases loadCellsFrom_events P h n (i+1) _ vs _ (by simpa using hl) (fun j v' e=>by have:=hv (j+1) v' (by simpa using e);rwa [show off+(i+1)+j=off+i+(j+1) by omega]) ev hev with h1|⟨j,hj,rfl⟩
  ·rw[Array.mem_push] at h1;rcases h1 with h1|rfl
   ·exact .inl h1
   ·exact .inr ⟨0,by omega,rfl⟩
  ·exact .inr ⟨j+1,by omega,by rw[show off+(i+1)+j=off+i+(j+1) by omega]⟩
structure Wrote(w:World)(b off:Nat)(vs:List Value)(w':World):Prop where
 size:w'.heap.size=w.heap.size
 tape:w'.tape=w.tape
 os:w'.os=w.os
 output:w'.output=w.output
 other:∀ k,k≠b→w'.heap[k]? = w.heap[k]?
 row:∀ c e,w.heap[b]? = some (.cells c e (0,0))→∃ c',w'.heap[b]? = some (.cells c' e (0,0))∧c'.size=c.size ∧
  (∀ k,(k<off∨off+vs.length≤k)→c'[k]? = c[k]?)∧∀ j v,vs[j]? = some v→c'[off+j]? = some v
theorem one_oneCell{v:Value}(h:one v=true):v.oneCell'=true:=by cases v<;>simp_all [one,Value.oneCell']
theorem setCell_row{w:World}{b off:Nat}{v:Value}{c:Array Value}{e:TypeId}(h:w.heap[b]? = some (.cells c e (0,0))) :
  (w.setCell ⟨b,off,none⟩ v).heap[b]? = some (.cells (c.setIfInBounds off v) e (0,0)):=by
 simp[World.setCell,Array.getElem?_modify,h]
theorem setCell_other{w:World}{a:Addr}{v:Value}{k:Nat}(h:k≠a.block):(w.setCell a v).heap[k]? = w.heap[k]?:=by simp[World.setCell,Array.getElem?_modify,Ne.symm h]
theorem storeCells_run(P:Program):∀(vs:List Value) (i:Nat) {w:World} {b off:Nat} {c:Array Value} {e:TypeId},w.heap[b]? = some (.cells c e (0,0))→vs.all one=true→off+i+vs.length≤c.size →
  ∃ w',(storeCells ⟨b,off,none⟩ vs i).run P w=.ok () w'∧Wrote w b (off+i) vs w'
 | [],i,w,b,off,c,e,h,_,_=>⟨w,by simp[storeCells],rfl,rfl,rfl,rfl,fun _ _=>rfl,fun c' e' h'=>⟨c',h',rfl,fun _ _=>rfl,fun j v hv=>by simp at hv⟩⟩
 |v::vs,i,w,b,off,c,e,h,h1,hs=>by
  simp only[List.all_cons,Bool.and_eq_true] at h1;simp only[List.length_cons] at hs;have hlt:off+i<c.size:=by omega
  have hc:w.cell? ⟨b,off+i,none⟩=some c[off+i]:=by rw[cell?_plain h,Array.getElem?_eq_getElem hlt]
  have hrow:=setCell_row (off:=off+i) (v:=v) h;obtain⟨w',hr,hw⟩:=storeCells_run P vs (i+1) (off:=off) hrow h1.2 (by simp;omega);refine⟨w',?_,?_⟩
  ·simp only[storeCells,Sem.run_bind,add_plain,run_store P w _ v .plain (one_oneCell h1.1),hc,frozen?_plain h,Result.andThen_ok,Bool.false_eq_true,if_false];exact hr
  ·refine⟨hw.size.trans (by simp),hw.tape,hw.os,hw.output,fun k hk=>(hw.other k hk).trans (setCell_other hk),fun c₀ e₀ h₀=>?_⟩;have:Obj.cells c₀ e₀ (0,0)=.cells c e (0,0):=Option.some.inj (h₀.symm.trans h);cases this;obtain⟨c',g1,g2,g3,g4⟩:=hw.row _ _ hrow;refine⟨c',g1,by simpa using g2,fun k hk=>?_,fun j v' hv=>?_⟩
   ·rw[g3 k (by simp only[List.length_cons] at hk;omega),Array.getElem?_setIfInBounds_ne (by simp only[List.length_cons] at hk;omega)]
   ·cases j with
    |zero=>simp at hv;subst hv;rw[g3 _ (by omega),Nat.add_zero,Array.getElem?_setIfInBounds_self_of_lt hlt]
    |succ j=>have:=g4 j v' (by simpa using hv);rwa [show off+i+(j+1)=off+(i+1)+j by omega]
theorem storeCells_events(P:Program):∀(vs:List Value) (i:Nat) {w:World} {b off:Nat} {c:Array Value} {e:TypeId} (es:Array Event),w.heap[b]? = some (.cells c e (0,0))→vs.all one=true→off+i+vs.length≤c.size →
  ∀ ev∈(storeCells ⟨b,off,none⟩ vs i).events P w es,ev∈es∨∃ j<vs.length,ev=⟨cellAt b (off+i+j),true,false⟩
 | [],i,w,b,off,c,e,es,h,_,_=>by intro ev hev;simp[storeCells] at hev;exact .inl hev
 |v::vs,i,w,b,off,c,e,es,h,h1,hs=>by
  simp only[List.all_cons,Bool.and_eq_true] at h1;simp only[List.length_cons] at hs;have hlt:off+i<c.size:=by omega
  have hc:w.cell? ⟨b,off+i,none⟩=some c[off+i]:=by rw[cell?_plain h,Array.getElem?_eq_getElem hlt]
  have hrow:=setCell_row (off:=off+i) (v:=v) h;intro ev hev;simp only[storeCells,Sem.events_bind,add_plain,run_store P w _ v .plain (one_oneCell h1.1),events_store P w es _ v .plain (one_oneCell h1.1),hc,frozen?_plain h,Result.evThen_ok,Bool.false_eq_true,if_false] at hev;rcases storeCells_events P vs (i+1) (off:=off) _ hrow h1.2 (by simp;omega) ev hev with h2|⟨j,hj,rfl⟩
  ·rw[Array.mem_push] at h2;rcases h2 with h2|rfl
   ·exact .inl h2
   ·exact .inr ⟨0,by simp,rfl⟩
  ·exact .inr ⟨j+1,by simp;omega,by rw[show off+(i+1)+j=off+i+(j+1) by omega]⟩
end
section
theorem dropN_get{α:Type}:∀(l:List α) (n i:Nat),(dropN l n)[i]? = l[n+i]?
 |l,0,i=>by simp[dropN]
 | [],n+1,i=>by simp[dropN]
 |_::l,n+1,i=>by rw[dropN,dropN_get l n i,show n+1+i=(n+i)+1 by omega];rfl
theorem takeOpt_some:∀{c:List (Option Value)} {n:Nat} {l:List Value},takeOpt c n=some l→l.length=n∧∀(i:Nat) (v:Value),l[i]? = some v→c[i]? = some (some v)
 |c,0,l,h=>by cases c<;>(simp[takeOpt] at h;subst h;exact⟨rfl,fun i v e=>by simp at e⟩)
 | [],n+1,l,h=>by simp[takeOpt] at h
 |o::c,n+1,l,h=>by
  cases o with
  |none=>simp[takeOpt] at h
  |some v=>
   simp only[takeOpt] at h;cases e:takeOpt c n with
   |none=>rw[e] at h;simp at h
   |some m=>
    rw[e] at h;simp at h;subst h;obtain⟨h1,h2⟩:=takeOpt_some e;refine⟨by simp[h1],fun i v' hi=>?_⟩;cases i with
    |zero=>simpa using hi
    |succ i=>simpa using h2 i v' (by simpa using hi)
theorem zEa:∀{c:List (Option Value)} {off:Nat} {vs:List Value} {c':List (Option Value)},writeAt c off vs=some c' →
  c'.length=c.length∧(vs≠[]→off+vs.length≤c.length)∧∀(i:Nat),c'[i]? = if off≤i∧i<off+vs.length then(vs[i-off]?).map some else c[i]?
 |c,off,[],c',h=>by cases c<;>(simp[writeAt] at h;subst h;refine⟨rfl,fun h=>absurd rfl h,fun i=>?_⟩;rw[if_neg (by simp)])
 | [],off,v::vs,c',h=>by simp[writeAt] at h
 |x::xs,0,v::vs,c',h=>by
  simp only[writeAt] at h;cases e:writeAt xs 0 vs with
  |none=>rw[e] at h;simp at h
  |some l=>
   rw[e] at h;simp at h;subst h;obtain⟨h1,h2,h3⟩:=zEa e;have h2':vs.length≤xs.length:=by
    cases vs with
    |nil=>simp
    |cons a b=>have:=h2 (by simp);simpa using this
   refine⟨by simp[h1],fun _=>by simp;omega,fun i=>?_⟩;cases i with
   |zero=>simp
   |succ i=>
    have:=h3 i;simp only[List.getElem?_cons_succ,this,List.length_cons,Nat.sub_zero];by_cases hi:i<vs.length
    ·rw[if_pos ⟨Nat.zero_le _,by omega⟩,if_pos ⟨Nat.zero_le _,by omega⟩]
    ·rw[if_neg (by omega),if_neg (by omega)]
 |x::xs,off+1,v::vs,c',h=>by
  simp only[writeAt] at h;cases e:writeAt xs off (v::vs) with
  |none=>rw[e] at h;simp at h
  |some l=>
   rw[e] at h;simp at h;subst h;obtain⟨h1,h2,h3⟩:=zEa e;have h2':=h2 (by simp);refine⟨by simp[h1],fun _=>by simp at h2' ⊢;omega,fun i=>?_⟩;cases i with
   |zero=>simp
   |succ i=>
    have:=h3 i;simp only[List.getElem?_cons_succ,this];by_cases hi:off≤i∧i<off+(v::vs).length
    ·rw[if_pos hi,if_pos ⟨by omega,by omega⟩,show i+1-(off+1)=i-off by omega]
    ·rw[if_neg hi,if_neg (by omega)]
theorem forget_length:∀(c:List (Option Value)) (i n:Nat),(forget c i n).length=c.length
 |c,i,0=>by cases c<;>simp[forget]
 | [],i,n+1=>by simp[forget]
 |_::xs,0,n+1=>by simp[forget,forget_length xs 0 n]
 |_::xs,i+1,n+1=>by simp[forget,forget_length xs i (n+1)]
theorem forget_get:∀{c:List (Option Value)} {i n j:Nat} {v:Value},(forget c i n)[j]? = some (some v)→c[j]? = some (some v)∧¬(i≤j∧j<i+n)
 |c,i,0,j,v,h=>by
  have:forget c i 0=c:=by cases c<;>rfl
  rw[this] at h;exact⟨h,by omega⟩
 | [],i,n+1,j,v,h=>by simp[forget] at h
 |x::xs,0,n+1,j,v,h=>by
  cases j with
  |zero=>simp[forget] at h
  |succ j=>obtain⟨h1,h2⟩:=forget_get (c:=xs) (i:=0) (n:=n) (j:=j) (by simpa[forget] using h);exact⟨by simpa using h1,by omega⟩
 |x::xs,i+1,n+1,j,v,h=>by
  cases j with
  |zero=>exact⟨by simpa[forget] using h,by omega⟩
  |succ j=>obtain⟨h1,h2⟩:=forget_get (c:=xs) (i:=i) (n:=n+1) (j:=j) (by simpa[forget] using h);exact⟨by simpa using h1,by omega⟩
def Turned(p n:Nat)(o o':AObj):Prop:=
 match o,o' with
 |.cells c x r b mem,o'=>∃ c',o'=.cells c' x r b mem∧c'.length=c.length∧∀(j:Nat) (v:Value),c'[j]? = some (some v)→c[j]? = some (some v)
 |o,o'=>o'=o
theorem Turned.refl(p n:Nat)(o:AObj):Turned p n o o:=by cases o<;>simp only[Turned]<;>first|rfl|exact⟨_,rfl,rfl,fun _ _ h=>h⟩
theorem Turned.trans{p n:Nat}{o o' o'':AObj}(h:Turned p n o o')(h':Turned p n o' o''):Turned p n o o'':=by
 cases o with
 |cells c x r b mem=>obtain⟨c',rfl,h2,h3⟩:=h;obtain⟨c'',rfl,g2,g3⟩:=h';exact⟨c'',rfl,g2.trans h2,fun j v e=>h3 j v (g3 j v e)⟩
 |map es=>simp only[Turned] at h h';subst h;exact h'
 |loop l=>simp only[Turned] at h h';subst h;exact h'
 |deferred ds=>simp only[Turned] at h h';subst h;exact h'
theorem zia(p n but:Nat):∀(ms:List Nat) (t:T AObj),
  (∀ b,(t.get b=none→(zVb p n but ms t).get b=none)∧∀ o,t.get b=some o→∃ o',(zVb p n but ms t).get b=some o'∧Turned p n o o'∧(b=but→o'=o)∧(b∉ms→o'=o) ∧
   (b∈ms→b≠but→∀ c x r ba mem,o'=.cells c x r ba mem→∀(j:Nat) (v:Value),c[j]? = some (some v)→¬(p≤ba+j∧ba+j<p+n)))
 | [],t=>fun b=>⟨fun h=>h,fun o h=>⟨o,h,.refl _ _ _,fun _=>rfl,fun _=>rfl,fun hm=>by simp at hm⟩⟩
 |m::ms,t=>by
  intro b;unfold zVb;cases e:Nat.beq m but with
  |true=>
   have hmb:=Nat.eq_of_beq_eq_true e;obtain⟨h0,h1⟩:=zia p n but ms t b;refine⟨h0,fun o ho=>?_⟩;obtain⟨o',g1,g2,g3,g4,g5⟩:=h1 o ho;refine⟨o',g1,g2,g3,fun hn=>g4 (fun hm=>hn (List.mem_cons_of_mem _ hm)),fun hm hb=>?_⟩;rcases List.mem_cons.1 hm with rfl|hm
   ·exact absurd hmb hb
   ·exact g5 hm hb
  |false=>
   have hmb:m≠but:=fun h=>by rw[T.beq_true h] at e;cases e
   simp only[];cases em:t.get m with
   |none=>
    simp only[];obtain⟨h0,h1⟩:=zia p n but ms t b;refine⟨h0,fun o ho=>?_⟩;obtain⟨o',g1,g2,g3,g4,g5⟩:=h1 o ho;refine⟨o',g1,g2,g3,fun hn=>g4 (fun hm=>hn (List.mem_cons_of_mem _ hm)),fun hm hb=>?_⟩;rcases List.mem_cons.1 hm with rfl|hm
    ·rw[em] at ho;cases ho
    ·exact g5 hm hb
   |some om=>
    cases om with
    |cells c x r ba mem=>
     simp only[];obtain⟨h0,h1⟩:=zia p n but ms (t.set m (.cells (forget c (p-ba) (n-(ba-p))) x r ba mem)) b;by_cases hbm:b=m
     ·subst hbm;refine⟨fun h=>(by rw[em] at h;cases h),fun o ho=>?_⟩;rw[em] at ho;cases ho;obtain⟨o',g1,g2,g3,g4,g5⟩:=h1 _ (T.get_set_same _ _ _);have gt:Turned p n (.cells c x r ba mem) (.cells (forget c (p-ba) (n-(ba-p))) x r ba mem):=⟨_,rfl,forget_length _ _ _,fun j v e=>(forget_get e).1⟩;refine⟨o',g1,gt.trans g2,fun hb=>absurd hb hmb,fun hn=>absurd (List.mem_cons_self) hn,fun _ hb c' x' r' ba' mem' ho' j v hj=>?_⟩;obtain⟨c'',rfl,k1,k2⟩:=g2;cases ho';obtain⟨k3,k4⟩:=forget_get (k2 j v hj);omega
     ·rw[T.get_set_ne _ _ hbm] at h0 h1;refine⟨h0,fun o ho=>?_⟩;obtain⟨o',g1,g2,g3,g4,g5⟩:=h1 o ho;refine⟨o',g1,g2,g3,fun hn=>g4 (fun hm=>hn (List.mem_cons_of_mem _ hm)),fun hm hb=>?_⟩;rcases List.mem_cons.1 hm with rfl|hm
      ·exact absurd rfl hbm
      ·exact g5 hm hb
    |map es|loop l|deferred ds=>
     simp only[];obtain⟨h0,h1⟩:=zia p n but ms t b;refine⟨h0,fun o ho=>?_⟩;obtain⟨o',g1,g2,g3,g4,g5⟩:=h1 o ho;refine⟨o',g1,g2,g3,fun hn=>g4 (fun hm=>hn (List.mem_cons_of_mem _ hm)),fun hm hb=>?_⟩;rcases List.mem_cons.1 hm with rfl|hm
     ·rw[em] at ho;cases ho;intro c x r ba mem ho';simp only[Turned] at g2;rw[g2] at ho';cases ho'
     ·exact g5 hm hb
end
section
def Inj.put(f:Inj)(b:Nat)(x:Base):Inj:=fun i=>if i=b then some x else f i
theorem Inj.put_same(f:Inj)(b:Nat)(x:Base):f.put b x b=some x:=by simp[Inj.put]
theorem Inj.put_ne(f:Inj){b i:Nat}(x:Base)(h:i≠b):f.put b x i=f i:=by simp[Inj.put,h]
theorem Inj.le_put{f:Inj}{b:Nat}{x:Base}(h:f b=none):f.le (f.put b x):=by
 intro i y e;by_cases hi:i=b
 ·subst hi;rw[h] at e;cases e
 ·rw[Inj.put_ne _ _ hi];exact e
variable {f:Inj}{K Mi Sh:Loc→Prop}{h:AHeap}{w:World}
theorem HRel.next_none(hr:HRel f K Mi h w){b:Nat}(hb:h.next≤b):f b=none:=by
 cases e:f b with
 |none=>rfl
 |some x=>obtain⟨o,e1,_⟩:=hr.obj b x e;have:=hr.wf.lt b o e1;omega
theorem HRel.grow{K' Mi':Loc→Prop}(hr:HRel f K Mi h w)(hK:∀ l,K l→K' l)(hM:∀ l,Mi l→Mi' l):HRel f K' Mi' h w:=
 {wf:=hr.wf,obj:=fun b x e=>let⟨o,e1,e2⟩:=hr.obj b x e;⟨o,e1,e2.mono f.le_refl hK⟩,mine:=fun b x e hl l hb=>hM _ (hr.mine b x e hl l hb),part:=fun b x i e hi=>hM _ (hr.part b x i e hi),apart:=hr.apart,coord:=hr.coord,home:=fun b x e=>hK _ (hr.home b x e)}
theorem zUb(hr:HRel f K Mi h w){b off n:Nat}{x:Base}{l:List Value}(hb:f b=some x)(hl:h.read b off n=some l) :
  l.length=n∧∃ rc e l',w.heap[x.blk]? = some (.cells rc e (0,0))∧VsRel f l l'∧(∀(i:Nat) (v:Value),l'[i]? = some v→rc[x.off+off+i]? = some v)∧∀ i<n,K (cellAt x.blk (x.off+off+i)):=by
 obtain⟨o,h1,h2⟩:=hr.obj b x hb;unfold AHeap.read at hl;rw[h1] at hl;cases o with
 |cells c ex r ba mem=>
  simp only[] at hl;obtain⟨e1,e2⟩:=takeOpt_some hl;refine⟨e1,?_⟩;obtain⟨_,rc,e,g1,gz,g2,g3⟩:=h2;have key:∀ i,i<n→∃ v v',l[i]? = some v∧rc[x.off+off+i]? = some v'∧VRel f v v'∧K (cellAt x.blk (x.off+off+i)):=by
   intro i hi;have hi':i<l.length:=by omega
   have ei:l[i]? = some l[i]:=List.getElem?_eq_getElem hi';have:=e2 i _ ei;rw[dropN_get] at this;obtain⟨k1,v',k2,k3⟩:=g3 _ _ this;rw[←Nat.add_assoc] at k1 k2;exact⟨_,v',ei,k2,k3,k1⟩
  refine⟨rc,e,(List.range n).map fun i=>(rc[x.off+off+i]?).getD undef,g1,?_,?_,fun i hi=>?_⟩
  ·refine VsRel.of_get (by simp[e1]) fun i v v' ev ev'=>?_
   have hi:i<n:=by have:=List.getElem?_eq_some_iff.1 ev;obtain⟨a,_⟩:=this;omega
   obtain⟨u,u',k1,k2,k3,_⟩:=key i hi;rw[k1] at ev;cases ev;simp[hi,k2] at ev';subst ev';exact k3
  ·intro i v ev;have hi:i<n:=by have:=List.getElem?_eq_some_iff.1 ev;obtain⟨a,_⟩:=this;simpa using a
   obtain⟨u,u',k1,k2,k3,_⟩:=key i hi;simp[hi,k2] at ev;subst ev;exact k2
  ·obtain⟨_,_,_,_,_,k⟩:=key i hi;exact k
 |map es=>simp at hl
 |loop l=>simp at hl
 |deferred ds=>simp at hl
def zF(w:World)(o:Obj):World:={w with heap:=w.heap.push o}
theorem pushed_old{w:World}{o:Obj}{k:Nat}(h:k<w.heap.size):(zF w o).heap[k]? = w.heap[k]?:=by show(w.heap.push o)[k]? = _;rw[Array.getElem?_push,if_neg (Nat.ne_of_lt h)]
theorem zOa(w:World)(o:Obj):(zF w o).heap[w.heap.size]? = some o:=by show(w.heap.push o)[w.heap.size]? = _;rw[Array.getElem?_push,if_pos rfl]
theorem pushed_size(w:World)(o:Obj):(zF w o).heap.size=w.heap.size+1:=by show(w.heap.push o).size=_;simp
def NewIn(N M:Nat)(l:Loc):Prop:=∃ b,locBlk l=some b∧N≤b∧b<M
theorem sameOn_pushed(K:Loc→Prop)(w:World)(o:Obj)(b:Nat):zob K b w (zF w o):=by
 intro o' e;have hb:b<w.heap.size:=(Array.getElem?_eq_some_iff.1 e).1;have:(zF w o).heap[b]? = some o':=by rw[pushed_old hb];exact e
 cases o'<;>simp only[]<;>first|exact⟨_,this,rfl,fun _ _=>rfl⟩|exact fun _=>this
theorem env_pushed(K:Loc→Prop)(w:World)(o:Obj):Env K w (zF w o):=⟨by rw[pushed_size];omega,rfl,rfl,rfl,fun b=>sameOn_pushed K w o b⟩
theorem did_pushed(Mi Sh:Loc→Prop)(w:World)(o:Obj):Did Mi Sh w (zF w o) #[] (fun l=>Mi l∨NewIn w.heap.size (w.heap.size+1) l):=
 ⟨env_pushed _ w o,fun l=>by rw[pushed_size];rfl,fun e he=>by simp at he⟩
theorem wf_row(hw:WF h)(vs:List Value)(ex:Nat):WF (h.row vs ex):=by
 have hn:h.objs.get h.next=none:=by
  cases e:h.objs.get h.next with
  |none=>rfl
  |some o=>have:=hw.lt _ _ e;omega
 have hm:members h.objs h.next=[]:=by simp[members,hn]
 refine⟨fun b o e=>?_,fun b c x r ba m e=>?_,fun r m hmem=>?_⟩
 ·simp only[AHeap.row,AHeap.alloc,T.get_set] at e ⊢;split at e
  ·next hb=>subst hb;omega
  ·have:=hw.lt b o e;omega
 ·simp only[AHeap.row,AHeap.alloc] at e ⊢;rw[T.get_set] at e;split at e
  ·next hb=>subst hb;cases e;refine⟨by simp[members,T.get_set_same],Nat.le_refl _,?_⟩;exact⟨_,_,_,T.get_set_same _ _ _⟩
  ·next hb=>
   obtain⟨h1,h2,c',x',m',h3⟩:=hw.mem b c x r ba m e;have hr:r≠h.next:=fun hr=>by rw[hr,hn] at h3;cases h3
   refine⟨?_,h2,c',x',m',by rw[T.get_set_ne _ _ hr];exact h3⟩;simp only[members,T.get_set_ne _ _ hr];exact h1
 ·simp only[AHeap.row,AHeap.alloc] at hmem ⊢;by_cases hr:r=h.next
  ·subst hr;simp only[members,T.get_set_same,List.mem_singleton] at hmem;subst hmem;exact⟨_,_,_,_,T.get_set_same _ _ _⟩
  ·simp only[members,T.get_set_ne _ _ hr] at hmem;obtain⟨c,x,ba,mem,h1⟩:=hw.kin r m hmem;have hmn:m≠h.next:=fun e=>by rw[e,hn] at h1;cases h1
   exact⟨c,x,ba,mem,by rw[T.get_set_ne _ _ hmn];exact h1⟩
theorem row_rel'(hr:HRel f K Mi h w){vs:List Value}{rc:Array Value}(e:TypeId)(ex:Nat)(hlen:vs.length≤rc.size)(hv:∀(i:Nat) (v:Value),vs[i]? = some v→∃ v',rc[i]? = some v'∧VRel f v v') :
  HRel (f.put h.next ⟨w.heap.size,0,ex,rc.size⟩) (fun l=>K l∨NewIn w.heap.size (w.heap.size+1) l) (fun l=>Mi l∨NewIn w.heap.size (w.heap.size+1) l) (h.row vs ex) (zF w (.cells rc e (0,0))):=by
 have hnx:f h.next=none:=hr.next_none (Nat.le_refl _);have hle:f.le (f.put h.next ⟨w.heap.size,0,ex,rc.size⟩):=Inj.le_put hnx;have old:∀ b x,f.put h.next ⟨w.heap.size,0,ex,rc.size⟩ b=some x→b≠h.next→f b=some x:=fun b x e hb=>by rwa [Inj.put_ne _ _ hb] at e
 have getn:(h.row vs ex).objs.get h.next=some (.cells (vs.map some) ex h.next 0 [h.next]):=T.get_set_same _ _ _;have geto:∀ b,b≠h.next→(h.row vs ex).objs.get b=h.objs.get b:=fun b hb=>T.get_set_ne _ _ hb
 have ltb:∀ b x,f b=some x→x.blk<w.heap.size:=fun b x e=>let⟨o,_,e2⟩:=hr.obj b x e;e2.lt
 have rootlt:∀ b o,h.objs.get b=some o→rootOf b o<h.next:=by
  intro b o e;have:=hr.wf.lt b o e;cases o with
  |cells c x r ba m=>have:=(hr.wf.mem b c x r ba m e).2.1;simp only[rootOf];omega
  |map es=>simpa[rootOf] using this
  |loop l=>simpa[rootOf] using this
  |deferred ds=>simpa[rootOf] using this
 refine⟨wf_row hr.wf vs ex,fun b x eb=>?_,fun b x eb hl l hlb=>?_,fun b x i eb hi=>?_,fun b b' x x' o o' eb eb' eo eo' hne=>?_,fun b b' x x' o o' eb eb' eo eo' he hx=>?_,fun b x eb=>?_⟩
 ·by_cases hb:b=h.next
  ·subst hb;rw[Inj.put_same] at eb;cases eb;refine⟨_,getn,rfl,rc,e,zOa w _,rfl,by simp[hlen],fun i v hi=>?_⟩;have hi':vs[i]? = some v:=by simpa using hi
   obtain⟨v',g1,g2⟩:=hv i v hi';refine⟨.inr ⟨w.heap.size,rfl,Nat.le_refl _,Nat.lt_succ_self _⟩,v',by simpa using g1,g2.mono hle⟩
  ·obtain⟨o,g1,g2⟩:=hr.obj b x (old b x eb hb);exact⟨o,by rw[geto b hb];exact g1,(g2.env (K':=K) (sameOn_pushed _ _ _ _) fun _ h=>h).mono hle fun _ h=>.inl h⟩
 ·by_cases hb:b=h.next
  ·subst hb;rw[Inj.put_same] at eb;cases eb;exact .inr ⟨w.heap.size,hlb,Nat.le_refl _,Nat.lt_succ_self _⟩
  ·exact .inl (hr.mine b x (old b x eb hb) hl l hlb)
 ·by_cases hb:b=h.next
  ·subst hb;rw[Inj.put_same] at eb;cases eb;exact .inr ⟨w.heap.size,rfl,Nat.le_refl _,Nat.lt_succ_self _⟩
  ·exact .inl (hr.part b x i (old b x eb hb) hi)
 ·by_cases hb:b=h.next
  ·subst hb;rw[Inj.put_same] at eb;cases eb;by_cases hb':b'=h.next
   ·subst hb';rw[eo] at eo';cases eo';exact absurd rfl hne
   ·have:=ltb b' x' (old b' x' eb' hb');show w.heap.size≠x'.blk;omega
  ·have:=ltb b x (old b x eb hb);by_cases hb':b'=h.next
   ·subst hb';rw[Inj.put_same] at eb';cases eb';show x.blk≠w.heap.size;omega
   ·rw[geto _ hb] at eo;rw[geto _ hb'] at eo';exact hr.apart b b' x x' o o' (old b x eb hb) (old b' x' eb' hb') eo eo' hne
 ·by_cases hb:b=h.next
  ·subst hb;rw[Inj.put_same] at eb;cases eb;by_cases hb':b'=h.next
   ·subst hb';rw[Inj.put_same] at eb';cases eb';rw[eo] at eo';cases eo';rfl
   ·have:=ltb b' x' (old b' x' eb' hb');exact absurd hx (by show w.heap.size≠x'.blk;omega)
  ·have:=ltb b x (old b x eb hb);by_cases hb':b'=h.next
   ·subst hb';rw[Inj.put_same] at eb';cases eb';exact absurd hx (by show x.blk≠w.heap.size;omega)
   ·rw[geto _ hb] at eo;rw[geto _ hb'] at eo';exact hr.coord b b' x x' o o' (old b x eb hb) (old b' x' eb' hb') eo eo' he hx
 ·by_cases hb:b=h.next
  ·subst hb;rw[Inj.put_same] at eb;cases eb;exact .inr ⟨w.heap.size,rfl,Nat.le_refl _,Nat.lt_succ_self _⟩
  ·exact .inl (hr.home b x (old b x eb hb))
theorem row_rel(hr:HRel f K Mi h w){vs:List Value}{rc:Array Value}(e:TypeId)(ex:Nat)(hv:VsRel f vs rc.toList) :
  HRel (f.put h.next ⟨w.heap.size,0,ex,rc.size⟩) (fun l=>K l∨NewIn w.heap.size (w.heap.size+1) l) (fun l=>Mi l∨NewIn w.heap.size (w.heap.size+1) l) (h.row vs ex) (zF w (.cells rc e (0,0))):=
 row_rel' hr e ex (by have:=hv.length;simp at this;omega) fun i v hi=>let⟨v',a,b⟩:=hv.get i hi;⟨v',by simpa using a,b⟩
end
section
def zoa(o o':AObj):Prop:=
 match o with
 |.cells c x r b m=>∃ c',o'=.cells c' x r b m∧c'.length=c.length
 |.map _=>∃ es,o'=.map es
 |.loop _=>∃ l,o'=.loop l
 |.deferred _=>∃ d,o'=.deferred d
theorem zoa.refl(o:AObj):zoa o o:=by cases o<;>first|exact⟨_,rfl,rfl⟩|exact⟨_,rfl⟩
theorem Turned.shape{p n:Nat}{o o':AObj}(h:Turned p n o o'):zoa o o':=by
 cases o with
 |cells c x r b m=>obtain⟨c',rfl,h2,_⟩:=h;exact⟨c',rfl,h2⟩
 |map es=>simp only[Turned] at h;subst h;exact⟨_,rfl⟩
 |loop es=>simp only[Turned] at h;subst h;exact⟨_,rfl⟩
 |deferred es=>simp only[Turned] at h;subst h;exact⟨_,rfl⟩
theorem zoa.root{b:Nat}{o o':AObj}(h:zoa o o'):rootOf b o'=rootOf b o:=by
 cases o with
 |cells c x r b m=>obtain⟨c',rfl,h2⟩:=h;rfl
 |map es=>obtain⟨_,rfl⟩:=h;rfl
 |loop es=>obtain⟨_,rfl⟩:=h;rfl
 |deferred es=>obtain⟨_,rfl⟩:=h;rfl
theorem zoa.base{o o':AObj}(h:zoa o o'):baseOf o'=baseOf o:=by
 cases o with
 |cells c x r b m=>obtain⟨c',rfl,h2⟩:=h;rfl
 |map es=>obtain⟨_,rfl⟩:=h;rfl
 |loop es=>obtain⟨_,rfl⟩:=h;rfl
 |deferred es=>obtain⟨_,rfl⟩:=h;rfl
def znb(t t':T AObj):Prop:=∀ b,(t.get b=none→t'.get b=none)∧∀ o,t.get b=some o→∃ o',t'.get b=some o'∧zoa o o'
theorem znb.back{t t':T AObj}(h:znb t t'){b:Nat}{o':AObj}(e:t'.get b=some o'):∃ o,t.get b=some o∧zoa o o':=by
 cases e0:t.get b with
 |none=>rw[(h b).1 e0] at e;cases e
 |some o=>obtain⟨o'',e1,e2⟩:=(h b).2 o e0;rw[e] at e1;cases e1;exact⟨o,rfl,e2⟩
theorem znb.members{t t':T AObj}(h:znb t t')(r:Nat):members t' r=members t r:=by
 unfold Cx.members;cases e:t.get r with
 |none=>rw[(h r).1 e]
 |some o=>
  obtain⟨o',e1,e2⟩:=(h r).2 o e;rw[e1];cases o with
  |cells c x r b m=>obtain⟨c',rfl,h2⟩:=e2;rfl
  |map es=>obtain⟨_,rfl⟩:=e2;rfl
  |loop es=>obtain⟨_,rfl⟩:=e2;rfl
  |deferred es=>obtain⟨_,rfl⟩:=e2;rfl
theorem znb.wf{h:AHeap}{t':T AObj}(hw:WF h)(hs:znb h.objs t'):WF {h with objs:=t'}:=by
 refine⟨fun b o e=>?_,fun b c x r ba m e=>?_,fun r m hm=>?_⟩
 ·obtain⟨o',e1,_⟩:=hs.back e;exact hw.lt b o' e1
 ·obtain⟨o',e1,e2⟩:=hs.back e;cases o' with
  |cells c0 x0 r0 b0 m0=>obtain⟨c',e3,_⟩:=e2;cases e3;obtain⟨h1,h2,c1,x1,m1,h3⟩:=hw.mem b _ _ _ _ _ e1;refine⟨by show b∈Cx.members t' r;rw[hs.members];exact h1,h2,?_⟩;obtain⟨o'',g1,g2⟩:=(hs r).2 _ h3;obtain⟨c'',rfl,_⟩:=g2;exact⟨c'',x1,m1,g1⟩
  |map es=>obtain⟨_,e3⟩:=e2;cases e3
  |loop es=>obtain⟨_,e3⟩:=e2;cases e3
  |deferred es=>obtain⟨_,e3⟩:=e2;cases e3
 ·have hm':m∈Cx.members h.objs r:=by rw[←hs.members];exact hm
  obtain⟨c,x,ba,mem,h1⟩:=hw.kin r m hm';obtain⟨o'',g1,g2⟩:=(hs m).2 _ h1;obtain⟨c'',rfl,_⟩:=g2;exact⟨c'',x,ba,mem,g1⟩
theorem inList_one{b off n:Nat}:∀{l:List (Nat×Nat×Nat)},inList b off n l=true→∀ j<n,inList b (off+j) 1 l=true
 | [],h,_,_=>by simp[inList] at h
 |(b',o',n')::l,h,j,hj=>by
  simp only[inList,Bool.or_eq_true,Bool.and_eq_true] at h ⊢;rcases h with⟨⟨h1,h2⟩,h3⟩|h
  ·left;have h2:=Nat.le_of_ble_eq_true h2;have h3:=Nat.le_of_ble_eq_true h3;refine⟨⟨h1,Nat.ble_eq_true_of_le (by omega)⟩,Nat.ble_eq_true_of_le ?_⟩;have h3':off+n≤o'+n':=h3;show off+j+1≤o'+n';omega
  ·exact .inr (inList_one h j hj)
theorem canW_one{h:AHeap}{b off n:Nat}(hc:h.canW b off n=true){j:Nat}(hj:j<n):h.canW b (off+j) 1=true:=by
 simp only[AHeap.canW,Bool.or_eq_true] at hc ⊢;rcases hc with hc|hc
 ·exact .inl hc
 ·exact .inr (inList_one hc j hj)
variable {f:Inj}{K Mi Sh:Loc→Prop}{h h':AHeap}{w w':World}
theorem write_some{b off:Nat}{vs:List Value}(hw:h.write b off vs=some h') :
  h.canW b off vs.length=true∧vs.all one=true∧∃ c c' ex r ba mem,h.objs.get b=some (.cells c ex r ba mem)∧writeAt c off vs=some c' ∧
   h'={h with objs:=(zVb (ba+off) vs.length b (members h.objs r) h.objs).set b (.cells c' ex r ba mem)}:=by
 unfold AHeap.write at hw;split at hw
 ·next c ex r ba mem e1 e2=>
  rw[Bool.and_eq_true] at e1;split at hw
  ·next c' e3=>refine⟨e1.1,e1.2,c,c',ex,r,ba,mem,e2,e3,?_⟩;obtain⟨o',g1,g2,g3,_⟩:=(zia (ba+off) vs.length b (members h.objs r) h.objs b).2 _ e2;have:=g3 rfl;subst this;simp only[g1] at hw;exact(Option.some.inj hw).symm
  ·cases hw
 ·cases hw
theorem write_rel(hr:HRel f K Mi h w)(hMK:∀ l,Mi l→K l){b off:Nat}{x:Base}{vs vs':List Value}(hb:f b=some x)(hw:h.write b off vs=some h')(hv:VsRel f vs vs')(hW:Wrote w x.blk (x.off+off) vs' w') :
  HRel f K Mi h' w'∧Env (fun l=>¬ Mi l) w w'∧(∀ j<vs.length,Mi (cellAt x.blk (x.off+off+j)))∧(∃ rc e,w.heap[x.blk]? = some (.cells rc e (0,0))∧(vs≠[]→x.off+off+vs.length≤rc.size)):=by
 obtain⟨h1,h2,c,c',ex,r,ba,mem,h3,h4,rfl⟩:=write_some hw;obtain⟨w1,w2,w3⟩:=zEa h4;obtain⟨o,g1,g2⟩:=hr.obj b x hb;rw[h3] at g1;cases g1;obtain⟨hex,rc,e,k1,kz,k2,k3⟩:=g2;obtain⟨rc',r1,r2,r3,r4⟩:=hW.row _ _ k1;have hlen:=hv.length;have mine:∀ j<vs.length,Mi (cellAt x.blk (x.off+off+j)):=by
  intro j hj;have:=canW_one h1 hj;simp only[AHeap.canW,Bool.or_eq_true] at this;rcases this with h|h
  ·exact hr.mine b x hb h _ rfl
  ·have:=hr.part b x (off+j) hb h;simpa[Nat.add_assoc] using this
 have ps:=zia (ba+off) vs.length b (members h.objs r) h.objs;have shaped:znb h.objs ((zVb (ba+off) vs.length b (members h.objs r) h.objs).set b (.cells c' ex r ba mem)):=by
  intro i;by_cases hi:i=b
  ·subst hi;rw[T.get_set_same];exact⟨fun e=>(by rw[h3] at e;cases e),fun o eo=>by rw[h3] at eo;cases eo;exact⟨_,rfl,c',rfl,w1⟩⟩
  ·rw[T.get_set_ne _ _ hi];exact⟨(ps i).1,fun o eo=>let⟨o',a1,a2,_⟩:=(ps i).2 o eo;⟨o',a1,a2.shape⟩⟩
 refine⟨⟨znb.wf hr.wf shaped,fun i y ei=>?_,fun i y ei hl l hlb=>hr.mine i y ei hl l hlb,fun i y j ei hj=>hr.part i y j ei hj,fun i i' y y' o o' ei ei' eo eo' hne=>?_,fun i i' y y' o o' ei ei' eo eo' he hy=>?_,hr.home⟩,⟨by rw[hW.size];exact Nat.le_refl _,hW.tape,hW.os,hW.output,fun k=>?_⟩,mine,rc,e,k1,fun hvs=>by have:=w2 hvs;omega⟩
 ·
  by_cases hi:i=b
  ·subst hi;rw[hb] at ei;cases ei;refine⟨_,T.get_set_same _ _ _,hex,rc',e,r1,by omega,by omega,fun j v hj=>?_⟩;rw[w3 j] at hj;split at hj
   ·next hin=>
    cases ev:vs[j-off]? with
    |none=>rw[ev] at hj;simp at hj
    |some v0=>rw[ev] at hj;simp at hj;subst hj;obtain⟨v',a1,a2⟩:=hv.get _ ev;have a3:=r4 _ _ a1;rw[show x.off+off+(j-off)=x.off+j by omega] at a3;have:=mine (j-off) (by omega);rw[show x.off+off+(j-off)=x.off+j by omega] at this;exact⟨hMK _ this,v',a3,a2⟩
   ·next hout=>obtain⟨a1,v',a2,a3⟩:=k3 j v hj;exact⟨a1,v',by rw[r3 _ (by omega)];exact a2,a3⟩
  ·obtain⟨o,e1,e2⟩:=hr.obj i y ei;obtain⟨o',p1,p2,p3,p4,p5⟩:=(ps i).2 o e1;refine⟨o',by show T.get _ i=_;rw[T.get_set_ne _ _ hi];exact p1,?_⟩;by_cases hroot:rootOf i o=r
   ·
    cases o with
    |cells ci xi ri bi mi=>
     simp only[rootOf] at hroot;subst hroot;obtain⟨ci',rfl,q1,q2⟩:=p2;have hm:i∈members h.objs ri:=(hr.wf.mem i _ _ _ _ _ e1).1;have hforget:=p5 hm hi _ _ _ _ _ rfl;obtain⟨hexi,rci,ei',t1,tz,t2,t3⟩:=e2;by_cases hblk:y.blk=x.blk
     ·have hco:=hr.coord i b y x _ _ ei hb e1 h3 rfl hblk;simp only[baseOf] at hco;rw[hblk] at t1 t3;rw[k1] at t1;cases t1;refine⟨hexi,rc',_,by rw[hblk];exact r1,by omega,by omega,fun j v hj=>?_⟩;obtain⟨a1,v',a2,a3⟩:=t3 j v (q2 j v hj);have hf:=hforget j v hj;refine⟨by rw[hblk];exact a1,v',?_,a3⟩;rw[r3 _ (by omega)];exact a2
     ·refine⟨hexi,rci,ei',by rw[hW.other _ hblk];exact t1,tz,by omega,fun j v hj=>t3 j v (q2 j v hj)⟩
    |map es=>exact absurd e1 (by simp only[rootOf] at hroot;subst hroot;obtain⟨_,_,c1,x1,m1,hh⟩:=hr.wf.mem b _ _ _ _ _ h3;rw[hh];simp)
    |loop es=>exact absurd e1 (by simp only[rootOf] at hroot;subst hroot;obtain⟨_,_,c1,x1,m1,hh⟩:=hr.wf.mem b _ _ _ _ _ h3;rw[hh];simp)
    |deferred es=>exact absurd e1 (by simp only[rootOf] at hroot;subst hroot;obtain⟨_,_,c1,x1,m1,hh⟩:=hr.wf.mem b _ _ _ _ _ h3;rw[hh];simp)
   ·have hblk:y.blk≠x.blk:=hr.apart i b y x _ _ ei hb e1 h3 hroot;have hnm:i∉members h.objs r:=by intro hm;obtain⟨ci,xi,bi,mi,hh⟩:=hr.wf.kin r i hm;rw[e1] at hh;cases hh;exact hroot rfl
    rw[p4 hnm];refine e2.env (K':=K) (fun o eo=>?_) fun _ h=>h
    have:=hW.other _ hblk;cases o<;>simp only[]<;>first|exact⟨_,this.trans eo,rfl,fun _ _=>rfl⟩|exact fun _=>this.trans eo
 ·obtain⟨o0,e1,e2⟩:=shaped.back eo;obtain⟨o1,e3,e4⟩:=shaped.back eo';rw[e2.root,e4.root] at hne;exact hr.apart i i' y y' o0 o1 ei ei' e1 e3 hne
 ·obtain⟨o0,e1,e2⟩:=shaped.back eo;obtain⟨o1,e3,e4⟩:=shaped.back eo';rw[e2.root,e4.root] at he;rw[e2.base,e4.base];exact hr.coord i i' y y' o0 o1 ei ei' e1 e3 he hy
 ·intro o eo;by_cases hk:k=x.blk
  ·subst hk;rw[k1] at eo;cases eo;refine⟨rc',r1,r2,fun i hi=>?_⟩;by_cases hin:x.off+off≤i∧i<x.off+off+vs.length
   ·exact absurd (mine (i-(x.off+off)) (by omega)) (by rw[show x.off+off+(i-(x.off+off))=i by omega];exact hi)
   ·exact r3 i (by omega)
  ·have:=(hW.other _ hk).trans eo;cases o<;>simp only[]<;>first|exact⟨_,this,rfl,fun _ _=>rfl⟩|exact fun _=>this
end
section
section
variable {p:Tab}(hp:TabOk p)(w:World)
include hp
theorem zn{t:TypeId}{i:TypeInfo}(h:p.types.get t=some i):(typeInfo t).run p.prog w=.ok i w:=by simp only[typeInfo,Sem.run_bind,run_program,Result.andThen_ok,hp.types t i h,Sem.run_pure]
theorem desc_underlying{t:TypeId}{d:TypeDesc}(h:p.desc t=some d):p.prog.underlying t=some d:=by
 unfold Tab.desc at h;unfold Program.underlying;cases e:p.types.get t with
 |none=>rw[e] at h;cases h
 |some i=>
  rw[e] at h;have e':=hp.types t i e;simp only[] at h;cases i with
  |mk desc str size bytes hp' al fa zero cmp ms=>
   rw[e'];cases desc with
   |named n u=>
    simp only[] at h ⊢;cases eu:p.types.get u with
    |none=>rw[eu] at h;cases h
    |some j=>rw[eu] at h;rw[hp.types u j eu];exact h
   |_=>exact h
theorem zb{t:TypeId}{d:TypeDesc}(h:p.desc t=some d):(underlying t).run p.prog w=.ok d w:=by simp only[underlying,Sem.run_bind,run_program,Result.andThen_ok,desc_underlying hp h,Sem.run_pure]
theorem zh{t:TypeId}{n:Nat}(h:p.size t=some n):(sizeOf t).run p.prog w=.ok n w:=by
 unfold Tab.size at h;split at h
 ·next i e=>cases h;simp only[sizeOf,Sem.run_bind,zn hp w e,Result.andThen_ok,Sem.run_pure]
 ·cases h
theorem zQ{t:TypeId}{b:Bool}(h:p.isAgg t=some b):(isAgg t).run p.prog w=.ok b w:=by
 unfold Tab.isAgg at h;cases e:p.desc t with
 |none=>rw[e] at h;cases h
 |some d=>rw[e] at h;simp only[isAgg,Sem.run_bind,zb hp w e,Result.andThen_ok];cases d<;>simp only[] at h<;>cases h<;>rfl
omit hp in
theorem zaa{t:TypeId}{z:Value}(h:p.zero t=some z):closed zY z=true∧∃ i,p.types.get t=some i∧i.zero=some z:=by
 unfold Tab.zero at h;cases e:p.types.get t with
 |none=>rw[e] at h;cases h
 |some i=>
  rw[e] at h;simp only[] at h;cases ez:i.zero with
  |none=>rw[ez] at h;cases h
  |some z'=>
   rw[ez] at h;simp only[] at h;cases ec:closed zY z' with
   |false=>rw[ec] at h;cases h
   |true=>rw[ec] at h;cases h;exact⟨ec,i,rfl,ez⟩
theorem zk{t:TypeId}{z:Value}(h:p.zero t=some z):(zeroValue t).run p.prog w=.ok z w:=by obtain⟨_,i,e,ez⟩:=zaa h;simp only[zeroValue,Sem.run_bind,zn hp w e,Result.andThen_ok,ez,Sem.run_pure]
end
theorem zdb{P:Program}{α:Type}:∀{s:Sem α} {a:α},pureIn P s=some a→∀(w:World) (es:Array Event),s.run P w=.ok a w∧s.events P w es=es:=by
 intro s
 induction s with
 |pure a=>intro a' h w es;simp[pureIn] at h;subst h;exact⟨rfl,rfl⟩
 |program k ih=>intro a' h w es;have:=ih P (by simpa[pureIn] using h) w es;exact⟨by simpa[Sem.run] using this.1,by simpa[Sem.events,Sem.runT,-Sem.runT_eq] using this.2⟩
 |_=>intro a' h;simp[pureIn] at h
theorem VRel.cells{f:Inj}{v v':Value}(h:VRel f v v'):VsRel f v.cells.toList v'.cells.toList:=by
 cases h with
 |agg h=>exact h
 |bool b=>exact .cons (.bool b) .nil
 |int k n=>exact .cons (.int k n) .nil
 |string s=>exact .cons (.string s) .nil
 |ptrNil=>exact .cons .ptrNil .nil
 |ptr h=>exact .cons (.ptr h) .nil
 |sliceNil n c=>exact .cons (.sliceNil n c) .nil
 |slice h hc he hu=>exact .cons (.slice h hc he hu) .nil
 |mapNil=>exact .cons .mapNil .nil
 |map h=>exact .cons (.map h) .nil
 |func hfn h1 h2=>exact .cons (.func hfn h1 h2) .nil
 |yield h=>exact .cons (.yield h) .nil
 |nilFunc=>exact .cons .nilFunc .nil
 |nilIface=>exact .cons .nilIface .nil
 |iface t h=>exact .cons (.iface t h) .nil
 |tuple h=>exact .cons (.tuple h) .nil
theorem VRel.one{f:Inj}{v v':Value}(h:VRel f v v'):one v'=one v:=by cases h<;>rfl
theorem VsRel.one{f:Inj}:∀{l l':List Value},VsRel f l l'→l'.all one=l.all one
 |_,_,.nil=>rfl
 |_,_,.cons h t=>by simp[h.one,t.one]
def zKa(t:T AObj)(b:Nat):Prop:=∃ c x,t.get b=some (.cells c x b 0 [b])
structure Old(f:Inj)(h:AHeap)(f':Inj)(h':AHeap):Prop where
 next:h.next≤h'.next
 none:∀ b,f b=none→zKa h.objs b→f' b=none∧h'.objs.get b=h.objs.get b
 lo:h'.lo=h.lo
 wl:h'.wl=h.wl
 no:h'.no=h.no
theorem Old.refl(f:Inj)(h:AHeap):Old f h f h:=⟨Nat.le_refl _,fun _ e _=>⟨e,rfl⟩,rfl,rfl,rfl⟩
def After(P:Program)(f:Inj)(Mi Sh:Loc→Prop)(h:AHeap)(w:World)(s:Sem Value)(v:Value)(h':AHeap):Prop:=
 ∃ v' w' f' Mi',s.run P w=.ok v' w'∧f.le f'∧VRel f' v v'∧Did Mi Sh w w' (s.events P w #[]) Mi'∧HRel f' (fun l=>Mi' l∨Sh l) Mi' h' w'∧Old f h f' h'
theorem Old.write{f:Inj}{h h':AHeap}(hwf:WF h){b off:Nat}{x:Base}{vs:List Value}(hb:f b=some x)(hw:h.write b off vs=some h'):Old f h f h':=by
 obtain⟨h1,h2,c,c',ex,r,ba,mem,h3,h4,rfl⟩:=write_some hw;refine⟨Nat.le_refl _,fun i ei hl=>⟨ei,?_⟩,rfl,rfl,rfl⟩;have hib:i≠b:=fun e=>by subst e;rw[hb] at ei;cases ei
 obtain⟨ci,xi,hi⟩:=hl;obtain⟨o',p1,p2,p3,p4,p5⟩:=(zia (ba+off) vs.length b (members h.objs r) h.objs i).2 _ hi;show T.get _ i=_;rw[T.get_set_ne _ _ hib,p1,p4,hi];intro hm;obtain⟨c1,x1,b1,m1,e1⟩:=hwf.kin r i hm;rw[hi] at e1;cases e1;have:=(hwf.mem b _ _ _ _ _ h3).1;simp only[members,hi,List.mem_singleton] at this;exact hib this.symm
theorem Did.still{Mi Sh:Loc→Prop}{w:World}{es:Array Event}(h:∀ e∈es,EvIn Mi Sh e):Did Mi Sh w w es Mi:=
 ⟨.refl _ _,fun _=>⟨.inl,fun h=>h.elim id fun⟨_,_,h1,h2⟩=>absurd h2 (Nat.not_lt.2 h1)⟩,h⟩
theorem Did.quiet{Mi Sh:Loc→Prop}{w:World}:Did Mi Sh w w #[] Mi:=.still fun e h=>by simp at h
variable {p:Tab}{f:Inj}{Mi Sh:Loc→Prop}{h h':AHeap}{w:World}
theorem zr(hr:HRel f (fun l=>Mi l∨Sh l) Mi h w){s:Sem Value}{v v':Value}(hs:∀ es,s.run p.prog w=.ok v' w∧s.events p.prog w es=es)(hv:VRel f v v'):After p.prog f Mi Sh h w s v h:=
 ⟨v',w,f,Mi,(hs #[]).1,f.le_refl,hv,by rw[(hs #[]).2];exact .quiet,hr,.refl _ _⟩
theorem loadAt_sound(hp:TabOk p)(hr:HRel f (fun l=>Mi l∨Sh l) Mi h w){t:TypeId}{a a' v:Value}(ha:VRel f a a')(ho:oLoad p h t a=some (v,h')) :
  After p.prog f Mi Sh h w (Instr.loadAt t a') v h':=by
 cases ha with
 |ptr hb=>
  rename_i b off x;simp only[oLoad] at ho;have hsure:∀(q:Addr) (w:World),(Instr.sureAddr (.pointer (some q))).run p.prog w=.ok q w:=fun _ _=>rfl
  split at ho
  ·next n e1 e2=>
   cases e3:h.read b off n with
   |none=>rw[e3] at ho;cases ho
   |some l=>
    rw[e3] at ho;cases ho;obtain⟨hl,rc,e,l',k1,k2,k3,k4⟩:=zUb hr hb e3;have hl':=k2.length;have hget:∀(j:Nat) (v:Value),l'[j]? = some v→rc[x.off+off+0+j]? = some v:=fun j v hj=>by simpa using k3 j v hj
    have hrun:=loadCellsFrom_run p.prog (off:=x.off+off) k1 n 0 #[] l' (by omega) hget;have hev:=loadCellsFrom_events p.prog (off:=x.off+off) k1 n 0 #[] l' #[] (by omega) hget;have run:(Instr.loadAt t (.pointer (some ⟨x.blk,x.off+off,none⟩))).run p.prog w=.ok (.agg l'.toArray) w:=by simp only[Instr.loadAt,Sem.run_bind,hsure,Result.andThen_ok,loadVar,zQ hp w e1,if_true,zh hp w e2,loadCells,hrun,Sem.run_pure];simp
    have evs:(Instr.loadAt t (.pointer (some ⟨x.blk,x.off+off,none⟩))).events p.prog w #[]=(loadCellsFrom ⟨x.blk,x.off+off,none⟩ 0 n #[]).events p.prog w #[]:=by simp only[Instr.loadAt,Instr.sureAddr,Sem.events_bind,Sem.run_pure,Sem.events_pure,Result.evThen_ok,loadVar,zQ hp w e1,events_isAgg,if_true,zh hp w e2,events_sizeOf,loadCells,hrun]
    refine⟨.agg l'.toArray,w,f,Mi,run,f.le_refl,.agg (by simpa using k2),?_,hr,.refl _ _⟩;rw[evs];refine Did.still fun ev hev'=>?_
    rcases hev ev hev' with h1|⟨j,hj,rfl⟩
    ·simp at h1
    ·refine .inr ⟨rfl,?_⟩;have:=k4 j hj;simp only[Nat.add_zero];exact this.elim .inl fun hs=>.inr ⟨trivial,hs⟩
  ·next sz e1=>
   cases e3:h.read b off 1 with
   |none=>rw[e3] at ho;cases ho
   |some l=>
    rw[e3] at ho;obtain⟨hl,rc,e,l',k1,k2,k3,k4⟩:=zUb hr hb e3
    match l,l',hl,k2 with
    | [v0],[v1],_,.cons hv _=>
     cases ho;have hc:w.cell? ⟨x.blk,x.off+off,none⟩=some v1:=by rw[cell?_plain k1];simpa using k3 0 v1 rfl
     have run:(Instr.loadAt t (.pointer (some ⟨x.blk,x.off+off,none⟩))).run p.prog w=.ok v1 w:=by simp only[Instr.loadAt,Sem.run_bind,hsure,Result.andThen_ok,loadVar,zQ hp w e1,Bool.false_eq_true,if_false,run_load,hc]
     have evs:(Instr.loadAt t (.pointer (some ⟨x.blk,x.off+off,none⟩))).events p.prog w #[]=#[⟨cellAt x.blk (x.off+off),false,false⟩]:=by simp only[Instr.loadAt,Instr.sureAddr,Sem.events_bind,Sem.run_pure,Sem.events_pure,Result.evThen_ok,loadVar,zQ hp w e1,events_isAgg,Bool.false_eq_true,if_false,events_load,hc];rfl
     refine⟨v1,w,f,Mi,run,f.le_refl,hv,?_,hr,.refl _ _⟩;rw[evs];refine Did.still fun ev hev'=>?_
     simp at hev';subst hev';refine .inr ⟨rfl,?_⟩;have:=k4 0 (by omega);exact this.elim .inl fun hs=>.inr ⟨rfl,hs⟩
  ·cases ho
 |_=>simp[oLoad] at ho
theorem storeAt_sound(hp:TabOk p)(hr:HRel f (fun l=>Mi l∨Sh l) Mi h w){t:TypeId}{a a' v v' r:Value}(ha:VRel f a a')(hv:VRel f v v')(ho:oStore p h t a v=some (r,h')) :
  r=undef∧∃ w',(Instr.storeAt t a' v').run p.prog w=.ok () w'∧Did Mi Sh w w' ((Instr.storeAt t a' v').events p.prog w #[]) Mi∧HRel f (fun l=>Mi l∨Sh l) Mi h' w'∧Old f h f h':=by
 cases ha with
 |ptr hb=>
  rename_i b off x;simp only[oStore] at ho;split at ho
  ·next n e1=>
   split at ho
   ·next e2=>
    cases e3:h.write b off v.cells.toList with
    |none=>rw[e3] at ho;cases ho
    |some h1=>
     rw[e3] at ho;cases ho;refine⟨rfl,?_⟩;have hc:=hv.cells;have hn:v'.cells.size=n:=by have:=hc.length;have:=Nat.eq_of_beq_eq_true e2;simp at *;omega
     obtain⟨o,g1,g2⟩:=hr.obj b x hb;obtain⟨q1,q2,c,c',ex,ro,ba,mem,q3,q4,q5⟩:=write_some e3;rw[q3] at g1;cases g1;obtain⟨_,rc,e,k1,kz,k2,k3⟩:=g2;have one':v'.cells.toList.all one=true:=by rw[hc.one];exact q2
     by_cases hnil:v'.cells.toList=[]
     ·
      have hnil2:v.cells.toList=[]:=by have:=hc.length;rw[hnil] at this;exact List.length_eq_zero_iff.1 (by simpa using this)
      have run:(Instr.storeAt t (.pointer (some ⟨x.blk,x.off+off,none⟩)) v').run p.prog w=.ok () w:=by simp only[Instr.storeAt,Instr.sureAddr,Sem.run_bind,Sem.run_pure,Result.andThen_ok,storeVar,zh hp w e1,hn,ne_eq,not_true_eq_false,if_false,hnil,storeCells]
      have evs:(Instr.storeAt t (.pointer (some ⟨x.blk,x.off+off,none⟩)) v').events p.prog w #[]=#[]:=by simp only[Instr.storeAt,Instr.sureAddr,Sem.events_bind,Sem.run_bind,Sem.run_pure,Sem.events_pure,Result.evThen_ok,Result.andThen_ok,storeVar,zh hp w e1,events_sizeOf,hn,ne_eq,not_true_eq_false,if_false,hnil,storeCells]
      have hW:Wrote w x.blk (x.off+off) v'.cells.toList w:=by rw[hnil];exact⟨rfl,rfl,rfl,rfl,fun _ _=>rfl,fun c e h=>⟨c,h,rfl,fun _ _=>rfl,fun j v hj=>by simp at hj⟩⟩
      obtain⟨r1,r2,r3,r4⟩:=write_rel hr (fun _ h=>.inl h) hb e3 hc hW;exact⟨w,run,by rw[evs];exact .quiet,r1,.write hr.wf hb e3⟩
     ·have fit:x.off+off+v'.cells.toList.length≤rc.size:=by have:=(zEa q4).2.1 (by intro e;exact hnil (List.length_eq_zero_iff.1 (by have:=hc.length;rw[e] at this;simpa using this.symm)));have:=hc.length;omega
      obtain⟨w',s1,s2⟩:=storeCells_run p.prog v'.cells.toList 0 (off:=x.off+off) k1 one' (by simpa using fit);have s3:=storeCells_events p.prog v'.cells.toList 0 (off:=x.off+off) #[] k1 one' (by simpa using fit);obtain⟨r1,r2,r3,r4⟩:=write_rel hr (fun _ h=>.inl h) hb e3 hc s2;have run:(Instr.storeAt t (.pointer (some ⟨x.blk,x.off+off,none⟩)) v').run p.prog w=.ok () w':=by simp only[Instr.storeAt,Instr.sureAddr,Sem.run_bind,Sem.run_pure,Result.andThen_ok,storeVar,zh hp w e1,hn,ne_eq,not_true_eq_false,if_false,s1]
      have evs:(Instr.storeAt t (.pointer (some ⟨x.blk,x.off+off,none⟩)) v').events p.prog w #[]=(storeCells ⟨x.blk,x.off+off,none⟩ v'.cells.toList).events p.prog w #[]:=by simp only[Instr.storeAt,Instr.sureAddr,Sem.events_bind,Sem.run_bind,Sem.run_pure,Sem.events_pure,Result.evThen_ok,Result.andThen_ok,storeVar,zh hp w e1,events_sizeOf,hn,ne_eq,not_true_eq_false,if_false]
      refine⟨w',run,⟨r2,fun l=>?_,fun ev hev=>?_⟩,r1,.write hr.wf hb e3⟩
      ·rw[s2.size];exact⟨.inl,fun h=>h.elim id fun⟨b,_,h1,h2⟩=>absurd h2 (Nat.not_lt.2 h1)⟩
      ·rw[evs] at hev;rcases s3 ev hev with h1|⟨j,hj,rfl⟩
       ·simp at h1
       ·refine .inr ⟨rfl,.inl ?_⟩;have:=r3 j (by have:=hc.length;omega);simpa using this
   ·cases ho
  ·cases ho
 |_=>simp[oStore] at ho
end
end Go.Cx
