/- Ground of proofs about package arrow: it says nothing by itself, without a condition. -/
import Derived.Test.YtpdmgecbapmgdaaGreatCx5
import Derived.Test.YtpdmgecbapmgdaaGreatCx6
import Derived.Conc.Listed
import GoSem.Dispatch
set_option linter.unusedSectionVars false
set_option linter.unusedSimpArgs false
set_option linter.unusedVariables false
set_option maxRecDepth 100000
namespace Go.Cx
section
open Go.Conc Go.ConcN Go.RowKit Go.Conc.Lib Go.ConcR.Gen Go.ConcN.Gen
variable {P:Program}{L:WgLink}
theorem enter_done(H:WgLib P L)(a:Value):Frame.enter P L.done #[a] .normal=(base L.done).at ⟨#[a,undef,undef,undef],[]⟩ [.code (body_done L)]:=by simp only[Frame.enter,H.f_done,Option.map_some,Option.getD_some,Option.bind_some];rfl
theorem arr115(a b:Value):#[a,b]++Array.replicate 115 undef=#[a,b,undef,undef,undef,undef,undef,undef,undef,undef,undef,undef,undef,undef,undef,undef,undef,undef,undef,undef,undef,undef,undef,undef,undef,undef,undef,undef,undef,undef,undef,undef,undef,undef,undef,undef,undef,undef,undef,undef,undef,undef,undef,undef,undef,undef,undef,undef,undef,undef,undef,undef,undef,undef,undef,undef,undef,undef,undef,undef,undef,undef,undef,undef,undef,undef,undef,undef,undef,undef,undef,undef,undef,undef,undef,undef,undef,undef,undef,undef,undef,undef,undef,undef,undef,undef,undef,undef,undef,undef,undef,undef,undef,undef,undef,undef,undef,undef,undef,undef,undef,undef,undef,undef,undef,undef,undef,undef,undef,undef,undef,undef,undef,undef,undef,undef,undef]:=by apply Array.toList_inj.1;simp only[Array.toList_append,Array.toList_replicate];rfl
theorem arr83(a:Value):#[a]++Array.replicate 83 undef=#[a,undef,undef,undef,undef,undef,undef,undef,undef,undef,undef,undef,undef,undef,undef,undef,undef,undef,undef,undef,undef,undef,undef,undef,undef,undef,undef,undef,undef,undef,undef,undef,undef,undef,undef,undef,undef,undef,undef,undef,undef,undef,undef,undef,undef,undef,undef,undef,undef,undef,undef,undef,undef,undef,undef,undef,undef,undef,undef,undef,undef,undef,undef,undef,undef,undef,undef,undef,undef,undef,undef,undef,undef,undef,undef,undef,undef,undef,undef,undef,undef,undef,undef,undef]:=by apply Array.toList_inj.1;simp only[Array.toList_append,Array.toList_replicate];rfl
theorem enter_gen{fn:Func}{f:FuncId}{args:Array Value}{n:Nat}{c:Code}(hf:P.funcs[f]? = some fn)(hn:fn.ntmps-args.size=n)(hb:fn.body=some c) :
  Frame.enter P f args .normal=(base f).at ⟨args++Array.replicate n undef,[]⟩ [.code c]:=by
 subst hn;simp only[Frame.enter,hf,Option.map_some,Option.getD_some,Option.bind_some,hb];rfl
theorem enter_add(H:WgLib P L)(a b:Value):Frame.enter P L.add #[a,b] .normal=(base L.add).at ⟨#[a,b,undef,undef,undef,undef,undef,undef,undef,undef,undef,undef,undef,undef,undef,undef,undef,undef,undef,undef,undef,undef,undef,undef,undef,undef,undef,undef,undef,undef,undef,undef,undef,undef,undef,undef,undef,undef,undef,undef,undef,undef,undef,undef,undef,undef,undef,undef,undef,undef,undef,undef,undef,undef,undef,undef,undef,undef,undef,undef,undef,undef,undef,undef,undef,undef,undef,undef,undef,undef,undef,undef,undef,undef,undef,undef,undef,undef,undef,undef,undef,undef,undef,undef,undef,undef,undef,undef,undef,undef,undef,undef,undef,undef,undef,undef,undef,undef,undef,undef,undef,undef,undef,undef,undef,undef,undef,undef,undef,undef,undef,undef,undef,undef,undef,undef,undef],[]⟩ [.code (body_add L)]:=by rw[enter_gen (n:=115) (c:=body_add L) H.f_add rfl rfl,arr115]
theorem enter_wait(H:WgLib P L)(a:Value):Frame.enter P L.wait #[a] .normal=(base L.wait).at ⟨#[a,undef,undef,undef,undef,undef,undef,undef,undef,undef,undef,undef,undef,undef,undef,undef,undef,undef,undef,undef,undef,undef,undef,undef,undef,undef,undef,undef,undef,undef,undef,undef,undef,undef,undef,undef,undef,undef,undef,undef,undef,undef,undef,undef,undef,undef,undef,undef,undef,undef,undef,undef,undef,undef,undef,undef,undef,undef,undef,undef,undef,undef,undef,undef,undef,undef,undef,undef,undef,undef,undef,undef,undef,undef,undef,undef,undef,undef,undef,undef,undef,undef,undef,undef],[]⟩ [.code (body_wait L)]:=by rw[enter_gen (n:=83) (c:=body_wait L) H.f_wait rfl rfl,arr83]
end
section
open Go.Conc Go.ConcN
open Go.ConcR (KK wgBlock WgAt stA smA rd wr mk Payload DC0)
theorem runTo_some{p:Tab}{pl:T (T (List Phase))}{q:L→Bool}:∀{n:Nat} {x x':L},runTo p pl q n x=some x'→q x'=true∧∃ m,runL p pl m x=.next x'
 |0,_,_,h=>by cases h
 |n+1,x,x',h=>by
  simp only[runTo] at h;cases hq:q x with
  |true=>rw[hq] at h;cases h;exact⟨hq,0,rfl⟩
  |false=>
   rw[hq] at h;simp only[] at h;cases e:stepL p pl x with
   |next x1=>rw[e] at h;obtain⟨h1,m,h2⟩:=runTo_some h;exact⟨h1,m+1,by simp only[runL,e];exact h2⟩
   |done v h1=>rw[e] at h;cases h
   |stop y=>rw[e] at h;cases h
   |stuck=>rw[e] at h;cases h
structure BackAt(p:Tab)(fn:FuncId)(chk:List Value→Bool)(x y:L)(ops:Array Oper)(i:Nat)(o:Oper)(rest:List Oper)(k:List AI)(args:List Value)(h:AHeap)(fr:AF):Prop where
 ex:x=⟨x.s,none,[]⟩
 ret:x.s.fr.ret=false
 round:x.s.fr.round=none
 todo:x.s.fr.todo=.reg ops i (o::rest)::k
 wanted:zX ops x.s.fr o=true
 aop:aop p x.s.h x.s.fr.ev o=some (.call fn args h)
 dst:zta x.s.fr o (.tuple #[]) (.reg ops (Nat.succ i) rest::k)=some fr
 chk:chk args=true
 ey:y=⟨{x.s with fr,h},none,[]⟩
theorem backFrom_some{p:Tab}{fn:FuncId}{chk:List Value→Bool}{x y:L}(h:zNa p fn chk x=some y):∃ ops i o rest k args h' fr,BackAt p fn chk x y ops i o rest k args h' fr:=by
 unfold zNa at h;split at h
 ·next ops i o rest k e1 e2 e3=>
  split at h
  ·next g args h' fr e4 e5 e6=>
   split at h
   ·next e7=>rw[Bool.and_eq_true] at e7;obtain rfl:=Nat.eq_of_beq_eq_true e7.1;cases h;obtain⟨a,b,c⟩:=opAt_some e3;refine⟨ops,i,o,rest,k,args,h',fr,?_,b,e2,c,e4,e5,e6,e7.2,rfl⟩;obtain⟨s,reg,lay⟩:=x;simp only at a e1;subst a;subst e1;rfl
   ·cases h
  ·cases h
 ·cases h
section
variable {p:Tab}{pl:T (T (List Phase))}{f:Inj}{Mi Sh:Loc→Prop}{main:Bool}{w:World}{bot:List Frame}{L0:World→Prop}
theorem toCall{Q:(Loc→Prop)→Goroutine→World→Prop}{mQ:Nat}(hp:TabOk p)(hmix:p.prog.follows .mixedOrders=true){fn:FuncId}{chk:List Value→Bool}{q:L→Bool}{n:Nat}{x x1 y:L}{g:Goroutine}
  (h1:runTo p pl q n x=some x1) (h2:zNa p fn chk x1=some y) (hr:XRel f Mi Sh bot x g w)
  (hQ:∀{f':Inj} {Mi':Loc→Prop} {w':World} {ops:Array Oper} {i:Nat} {o:Oper} {rest:List Oper} {k:List AI} {args:List Value} {h:AHeap} {fr:AF} {tmps:Array Value} {k':List Item} {defers:List Deferred} {cs:List Frame} {args':Array Value} {g1:Goroutine} {f1:Inj},
   BackAt p fn chk x1 y ops i o rest k args h fr→OpAt f1 bot x1.s ops i o rest k g1 tmps k' defers cs→f.le f1→f1.le f'→VsRel f' args args'.toList→HRel f' (fun l=>Mi' l∨Sh l) Mi' h w' →
   GoesX p.prog main Sh L0 Q mQ Mi' (G (Frame.enter p.prog fn args' .normal) (realF x1.s.fr tmps (.inRegion ops (List.range' i (o::rest).length)::k') defers none::(cs++bot))) w') :
  ∃ m,GoesX p.prog main Sh L0 Q m Mi g w:=by
 obtain⟨_,m,hm⟩:=runTo_some h1;obtain⟨ops,i,o,rest,k,args,h,fr,hb⟩:=backFrom_some h2;refine⟨costL p pl m x+(mQ+1),?_⟩;refine GoesX.bind ?_ (runL_sound (L0:=L0) hp hmix m hm hr);intro Mi1 g1 w1 hq;obtain⟨f1,hf1,hx1⟩:=hq w1 (.refl _ _ _);refine .step hx1.running fun w2 h2=>?_
 have hs1:SRel f1 Mi1 Sh bot x1.s g1 w2:=by have:=hx1.env h2.1;rw[hb.ex] at this;exact this.flat
 obtain⟨tmps,k',defers,cs,ha⟩:=hs1.opAt hb.ret hb.round hb.todo;obtain⟨w',es,Mi',f',args',k1,k2,k3,k4,k5⟩:=call_step (main:=main) hp ha hb.wanted hb.aop hs1.heap;exact⟨_,w',es,Mi',k1,k3,hQ hb ha hf1 k2 k4 k5⟩
end
end
section
open Go.Conc Go.ConcN Go.Conc.Lib Go.ConcR.Gen Go.ConcN.Gen
open Go.ConcR (KK wgBlock WgAt stA smA rd wr mk Payload DC0)
theorem GoesX.keep{P:Program}{main:Bool}{Sh:Loc→Prop}{L:World→Prop}{Q:(Loc→Prop)→Goroutine→World→Prop}{I:(Loc→Prop)→World→Prop}
  (h1:∀ Mi w w1,I Mi w→Rely L (fun l=>Mi l∨Sh l) w w1→I Mi w1) (h2:∀ Mi w w' es Mi',I Mi w→Did Mi Sh w w' es Mi'→I Mi' w') {n:Nat} {Mi:Loc→Prop} {g:Goroutine} {w:World} (h:GoesX P main Sh L Q n Mi g w) (hI:I Mi w) :
  GoesX P main Sh L (fun Mi g w=>Q Mi g w∧I Mi w) n Mi g w:=by
 induction h with
 |here h=>exact .here fun w1 he=>⟨h w1 he,h1 _ _ _ hI he⟩
 |go g' w' es Mi' hr h k ih=>exact .go g' w' es Mi' hr h fun w1 he=>ih w1 he (h2 _ _ _ _ _ (h1 _ _ _ hI he) (h w1 he).2)
def bottom(P:Program):Frame:={(default:Frame) with fn:=P.funcs.size,defers:=[],mode:=.panicking [goexitEntry]}
theorem quits_end{P:Program}{fn1 fn2:Func}{b c:Frame}{a:Act}{ops:Array Oper}{tmps:Array Value}{todo:List Item}(hb:b.kind=.deferred)(ha:a.defers=[])(h1:P.funcs[b.fn]? = some fn1)(r1:fn1.results=#[])
  (hc:c={fn:=c.fn,tmps,todo,defers:=[],mode:=.returning,kind:=.deferred,roundOf:=none}) (h2:P.funcs[c.fn]? = some fn2) (r2:fn2.results=#[]) :
  QuitsD P 5 0 (G (b.at a (.inRegion ops []::[])) [c,bottom P]):=by
 refine QuitsD.ctl rfl (fun _=>stepG_region_end) ?_;refine QuitsD.ctl rfl (fun _=>stepG_end) ?_;refine QuitsD.leaveD hb ha h1 r1 (by rw[hc]) ?_;rw[hc];refine QuitsD.ctl rfl (fun w=>?_) (g':=G (bottom P) []) ?_
 ·simp[G,stepG,unwind,doReturn,h2,r2,results,bottom,GStep.after,seen,goexitEntry]
 ·refine QuitsD.ctl rfl (fun w=>?_) (g':={G (bottom P) [] with status:=.finished}) ?_
  ·simp[G,stepG,unwind,bottom,goexitEntry,Frame.catches];rfl
  ·exact⟨rfl,rfl⟩
theorem endsOk_some{p:Tab}{x:L}(h:endsOk p x=true):∃ ops i o c fn1 fn2,opAt x=some (ops,i,o,[],[])∧x.s.fr.defers=[]∧x.s.cs=[c]∧x.s.fr.deferred=true∧c.ret=true∧c.deferred=true∧c.defers=[]∧c.round=none ∧
  p.funcs.get x.s.fr.fn=some fn1∧fn1.results=#[]∧p.funcs.get c.fn=some fn2∧fn2.results=#[]:=by
 unfold endsOk at h;split at h
 ·next ops i o c e1 e2 e3=>
  simp only[Bool.and_eq_true] at h;obtain⟨⟨⟨⟨h1,h2⟩,h3⟩,h4⟩,h5⟩:=h;split at h4
  ·next e4 e5=>
   split at h5
   ·next a b e6 e7=>
    split at h5
    ·next e8 e9=>exact⟨ops,i,o,c,a,b,e1,e2,e3,h1,h2,h3,e4,e5,e6,by simpa using e8,e7,by simpa using e9⟩
    ·cases h5
   ·cases h5
  ·cases h4
 ·cases h
section
variable [Payload]
def Crw(p:Tab)(Lk:WgLink)(n Wg C nC B o:Nat)(vals:List (List Value))(hn:n<2147483647)(hCW:C≠Wg)(hCB:C≠B)(w0:World)(hWN:w0.heap.size≤Wg)(hCN:w0.heap.size≤C):Crew where
 P:=p.prog
 ty:=Lk.tWg
 Wg:=Wg
 C:=C
 nC:=nC
 n:=n
 ResM:=fun k l=>∃ i,i<2∧l=cellAt B (o+(2*k+i))
 Res:=fun k w=>∀ i v,i<2→(vals.getD k [])[i]? = some v→w.cell? ⟨B,o+(2*k+i),none⟩=some v
 q:=23
 hn:=hn
 hCW:=hCW
 w0:=w0
 hWN:=hWN
 hCN:=hCN
 resC:=fun k ⟨i,_,e⟩=>by simp only[cellAt,Loc.cell.injEq,Addr.mk.injEq] at e;exact hCB e.1
 stable:=fun k w w' he h i v hi hv=>by
  have h1:=h i v hi hv;simp only[World.cell?] at h1 ⊢;cases e:w.heap[B]? with
  |none=>rw[e] at h1;cases h1
  |some ob=>
   rw[e] at h1;cases ob with
   |cells c ety fr=>obtain⟨c',k1,k2,k3⟩:=he.same B _ e;rw[k1];simp only[] at h1 ⊢;have:=k3 (o+(2*k+i)) ⟨i,hi,rfl⟩;simpa[this] using h1
   |_=>cases h1
variable {p:Tab}{pl:T (T (List Phase))}{Lk:WgLink}{n Wg C nC:Nat}{xB xW:Base}{vals:List (List Value)}{hn:n<2147483647}{hCW:C≠Wg}{hCB:C≠xB.blk}{w0:World}{hWN:w0.heap.size≤Wg}{hCN:w0.heap.size≤C}
theorem worker_goes(H:WgLib p.prog Lk)(hp:TabOk p)(hmix:p.prog.follows .mixedOrders=true){c:Cfg}{k:Nat}{x:L}{vk:List Value}{f:Inj}{Mc Sc:Loc→Prop}{g:Goroutine}{w:World}(hdone:c.done=Lk.done)
  (hw:zfc p pl c k x=some vk) (hvk:vals.getD k []=vk) (hr:XRel f Mc Sc [bottom p.prog] x g w) (hbW:f c.bW=some xW) (hxW:xW.blk=Wg) (hxO:xW.off=0) (hbB:f c.bB=some xB)
  (hlive:WgLive Lk.tWg Wg w) (hpay:PayAt C nC w) (hMW:∀ i,¬ Mc (cellAt Wg i)) (hk:k<nC) :
  WWorks (Crw p Lk n Wg C nC xB.blk xB.off vals hn hCW hCB w0 hWN hCN) (k+1) Mc Sc g w:=by
 unfold zfc at hw;cases e1:runTo p pl (zic c.done) c.fuel x with
 |none=>rw[e1] at hw;cases hw
 |some x1=>
 rw[e1] at hw;simp only[] at hw;cases e2:zNa p c.done (zjc c.bW) x1 with
 |none=>rw[e2] at hw;cases hw
 |some y=>
 rw[e2] at hw;simp only[] at hw;split at hw
 ·next vk' e3 e4=>
  split at hw
  ·next e5=>
   cases hw;rw[hdone] at e2;obtain⟨ops,i,o,cf,fn1,fn2,a1,a2,a3,a4,a5,a6,a7,a8,a9,a10,a11,a12⟩:=endsOk_some e3;have hQ:∃ m,GoesX p.prog false Sc (WgLive Lk.tWg Wg) (fun Mi g w=>(∀ i v,i<2→vk[i]? = some v→w.cell? ⟨xB.blk,xB.off+(2*k+i),none⟩=some v) ∧
     ∃(b:Frame) (a:Act) (ops:Array Oper) (i:Nat) (cs:List Frame),g=G ((base Lk.done).at ⟨#[.pointer (some ⟨Wg,0,none⟩),undef,undef,undef],[]⟩ [.code (body_done Lk)]) (b.at a (.inRegion ops [i]::[])::cs) ∧
      QuitsD p.prog 5 0 (G (b.at (a.put ((ops[i]?).bind (·.dst)) (.tuple #[])) (.inRegion ops []::[])) cs)) m Mc g w:=by
    refine toCall (mQ:=0) hp hmix e1 e2 hr ?_;intro f' Mi' w' ops' i' o' rest k0 args h fr tmps k' defers cs args' g1 f1 hb ha hf1 hf2 hv hh;obtain⟨b1,b2,b3⟩:=opAt_some a1;have htd:=hb.todo;rw[b3] at htd;cases htd;have hk':k'=[]:=by cases ha.k;rfl
    have hdf:defers=[]:=by have:=ha.defs;rw[a2] at this;cases this;rfl
    subst hk';subst hdf;have hcs:=ha.cs;rw[a3] at hcs;cases hcs with
    |cons hc ht=>
    cases ht;rename_i c';obtain⟨tm,td,df,rd,rfl,c1,c2,c3,c4,c5⟩:=hc.ex;rw[a7] at c4;cases c4;rw[a8] at c5;cases c5;have hargs:args'=#[.pointer (some ⟨Wg,0,none⟩)]:=by
     have hc:=hb.chk;unfold zjc at hc;split at hc
     ·next bb=>
      obtain rfl:=Nat.eq_of_beq_eq_true hc;obtain⟨al⟩:=args';cases hv with
      |cons hv1 ht=>
       cases ht;cases hv1 with
       |ptr hb'=>have:=hf2 _ _ (hf1 _ _ hbW);rw[this] at hb';cases hb';rw[hxW,hxO]
     ·cases hc
    refine .here fun w1 hw1=>⟨fun j v hj hv'=>?_,realF x1.s.fr tmps [] [] none,⟨tmps,[]⟩,ops,i,[realF cf tm td [] none,bottom p.prog],?_,?_⟩
    ·have hy:y.s.h=h:=by rw[hb.ey]
     rw[hy] at e4;obtain⟨q0,rc,ety,l',q1,q2,q3,q4⟩:=zUb (hh.env hw1.1) (hf2 _ _ (hf1 _ _ hbB)) e4;have hl':=q2.eq_of_closed e5;subst hl';have:=q3 j v hv';rw[show xB.off+(2*k+j)=xB.off+Nat.mul 2 k+j by rw[Nat.add_assoc];rfl];simpa[World.cell?,q1] using this
    ·rw[hargs,enter_done H,realF_at hb.ret tmps [] []];rfl
    ·refine quits_end (fn1:=fn1) (fn2:=fn2) (tmps:=tm) (todo:=td) ?_ ?_ ?_ a10 ?_ ?_ a12
     ·simp[realF,a4]
     ·cases((ops[i]?).bind (·.dst))<;>rfl
     ·exact hp.funcs _ _ a9
     ·simp[realF,a5,a6]
     ·exact hp.funcs _ _ a11
   obtain⟨m,hG⟩:=hQ;refine⟨m,?_⟩;have hk2:=hG.keep (I:=fun Mi w=>WgLive Lk.tWg Wg w∧PayAt C nC w∧(∀ i,¬ Mi (cellAt Wg i))) ?_ ?_ ⟨hlive,hpay,hMW⟩
   ·refine hk2.mono fun Mi g w hq=>?_
    obtain⟨⟨hR,b,a,ops',i',cs,rfl,hqt⟩,hl,hpy,_⟩:=hq;refine⟨?_,?_⟩
    ·intro j v hj hv;rw[show k+1-1=k from rfl,hvk] at hv;exact hR j v hj hv
    ·obtain⟨cs',hc,hs⟩:=hpy;have hlt:k<cs'.size:=by omega
     refine⟨cs'[k],?_⟩;have hh:w.cell? ⟨C,k,none⟩=some cs'[k]:=by simp[World.cell?,hc,hlt]
     exact doneX H (hT:=hqt) w ⟨hl,hh⟩
   ·intro Mi w w1 ⟨i1,i2,i3⟩ hr;exact⟨hr.2 i1,hr.1.pay i2,i3⟩
   ·intro Mi w w' es Mi' ⟨i1,i2,i3⟩ hd;obtain⟨st,sm,hwg⟩:=i1;refine⟨⟨st,sm,hd.env.wg (fun i=>i3 i) hwg⟩,hd.env.pay i2,fun i hm=>?_⟩;rcases(hd.mine _).1 hm with hm|⟨b,hb,h1,_⟩
    ·exact i3 i hm
    ·cases hb;have h2:Wg<w.heap.size:=(Array.getElem?_eq_some_iff.1 hwg).1;have h3:w.heap.size≤Wg:=h1;omega
  ·cases hw
 ·cases hw
end
end
section
open Go.Conc Go.ConcN Go.Conc.Lib Go.ConcR.Gen Go.ConcN.Gen
open Go.ConcR (KK wgBlock WgAt stA smA rd wr mk Payload DC0)
section
variable {p:Tab}{f:Inj}{M Sh:Loc→Prop}{main:Bool}{w:World}{bot:List Frame}{h h1:AHeap}{bB n:Nat}{xB:Base}
def Rem(xB:Base)(n k:Nat)(l:Loc):Prop:=∃ i j,k≤i∧i<n∧j<2∧l=cellAt xB.blk (xB.off+(2*i+j))
def One(xB:Base)(k:Nat)(l:Loc):Prop:=∃ j,j<2∧l=cellAt xB.blk (xB.off+(2*k+j))
theorem Rem.one{k:Nat}(hk:k<n){l:Loc}(h:One xB k l):Rem xB n k l:=let⟨j,h1,h2⟩:=h;⟨k,j,Nat.le_refl _,hk,h1,h2⟩
theorem Rem.succ{k:Nat}{l:Loc}(h:Rem xB n (k+1) l):Rem xB n k l:=let⟨i,j,a,b,c,d⟩:=h;⟨i,j,by omega,b,c,d⟩
theorem Rem.zero{k:Nat}{l:Loc}(h:Rem xB n k l):Rem xB n 0 l:=let⟨i,j,a,b,c,d⟩:=h;⟨i,j,by omega,b,c,d⟩
theorem Rem.not_one{k:Nat}{l:Loc}(h:Rem xB n (k+1) l):¬ One xB k l:=by rintro⟨j',h1,h2⟩;obtain⟨i,j,a,b,c,d⟩:=h;rw[d] at h2;simp only[cellAt,Loc.cell.injEq,Addr.mk.injEq] at h2;omega
theorem Rem.blk{k:Nat}{l:Loc}(h:Rem xB n k l):locBlk l=some xB.blk:=by obtain⟨i,j,a,b,c,rfl⟩:=h;rfl
theorem zDa:∀{c:List (Option Value)},allNone c=true→∀(i:Nat) (v:Value),c[i]?≠some (some v)
 | [],_,i,v,h=>by simp at h
 |none::c,hc,0,v,h=>by simp at h
 |none::c,hc,i+1,v,h=>zDa (c:=c) hc i v (by simpa using h)
 |some _::_,hc,_,_,_=>by cases hc
theorem zZ(hb:zda h bB n=true):∃ c u,h.objs.get bB=some (.cells c u bB 0 [bB])∧allNone c=true∧c.length=n:=by
 unfold zda at hb;split at hb
 ·next c u r ba m e=>
  simp only[Bool.and_eq_true] at hb;obtain⟨⟨⟨⟨h1,h2⟩,h3⟩,h4⟩,h5⟩:=hb;split at h5
  ·next b=>obtain rfl:=Nat.eq_of_beq_eq_true h5;obtain rfl:=Nat.eq_of_beq_eq_true h3;obtain rfl:=Nat.eq_of_beq_eq_true h4;exact⟨c,u,e,h1,Nat.eq_of_beq_eq_true h2⟩
  ·cases h5
 ·cases hb
theorem HRel.only{K Mi:Loc→Prop}(hr:HRel f K Mi h w)(hb:zda h bB n=true)(hB:f bB=some xB){b:Nat}{x:Base}(hx:f b=some x)(he:x.blk=xB.blk):b=bB:=by
 obtain⟨c,u,e,_,_⟩:=zZ hb;obtain⟨o,h1,h2⟩:=hr.obj b x hx;have hroot:rootOf b o=bB:=by apply Classical.byContradiction;intro hne;exact hr.apart b bB x xB o _ hx hB h1 e (by simpa[rootOf] using hne) he
 cases o with
 |cells c' u' r ba m=>simp only[rootOf] at hroot;obtain⟨hm,_⟩:=hr.wf.mem b c' u' r ba m h1;rw[hroot] at hm;simp only[members,e] at hm;simpa using hm
 |map es=>simpa[rootOf] using hroot
 |loop l=>simpa[rootOf] using hroot
 |deferred ds=>simpa[rootOf] using hroot
theorem HRel.move(hr:HRel f (fun l=>M l∨Sh l) M h w)(hb:zda h bB n=true)(hB:f bB=some xB){M1 S1:Loc→Prop}(ho:h1.objs=h.objs)(hn:h1.next=h.next)
  (hK:∀ l,M l∨Sh l→(∀ i,l≠cellAt xB.blk i)→M1 l∨S1 l) (hm:∀ b x,f b=some x→h1.owns b=true→∀ l,locBlk l=some x.blk→M1 l)
  (hp:∀ b x i,f b=some x→inList b i 1 h1.wl=true→M1 (cellAt x.blk (x.off+i))):HRel f (fun l=>M1 l∨S1 l) M1 h1 w:=by
 refine⟨⟨fun b o e=>by rw[hn];exact hr.wf.lt b o (ho▸e),fun b c x r ba m e=>by rw[ho] at e ⊢;exact hr.wf.mem b c x r ba m e,fun r m e=>by rw[ho] at e ⊢;exact hr.wf.kin r m e⟩,fun b x hx=>?_,hm,hp,
  fun b b' x x' o o' h1 h2 h3 h4=>hr.apart b b' x x' o o' h1 h2 (ho▸h3) (ho▸h4),fun b b' x x' o o' h1 h2 h3 h4=>hr.coord b b' x x' o o' h1 h2 (ho▸h3) (ho▸h4),fun b x hx=>hK _ (hr.home b x hx) fun i=>by simp⟩
 obtain⟨o,e1,e2⟩:=hr.obj b x hx;refine⟨o,by rw[ho];exact e1,?_⟩
 match o,e2 with
 |.cells c u r ba m,⟨a1,rc,e,a2,a3,a4,a5⟩=>refine⟨a1,rc,e,a2,a3,a4,fun i v hi=>?_⟩;obtain⟨k1,k2⟩:=a5 i v hi;refine⟨hK _ k1 fun j hj=>?_,k2⟩;simp only[cellAt,Loc.cell.injEq,Addr.mk.injEq] at hj;obtain rfl:=hr.only hb hB hx hj.1;obtain⟨c',u',e',hn',_⟩:=zZ hb;rw[e1] at e';cases e';exact zDa hn' i v hi
 |.map es,⟨a1,a2,a3⟩=>exact⟨a1,hK _ a2 (fun i=>by simp),a3⟩
 |.loop l,⟨a1,a2,a3⟩=>exact⟨a1,hK _ a2 (fun i=>by simp),a3⟩
 |.deferred none,⟨a1,a2,a3⟩=>exact⟨a1,hK _ a2 (fun i=>by simp),a3⟩
 |.deferred (some ds),⟨a1,a2,a3⟩=>exact⟨a1,hK _ a2 (fun i=>by simp),a3⟩
theorem HRel.lt{K Mi:Loc→Prop}(hr:HRel f K Mi h w){b:Nat}{x:Base}(hx:f b=some x):b<h.next:=let⟨o,e,_⟩:=hr.obj b x hx;hr.wf.lt b o e
theorem born_step{P:Program}{fn:FuncId}{fu:Func}{c:Array Value}{cd:Code}(hf:P.funcs[fn]? = some fu)(hnum:¬ fu.name = "runtime.NumGoroutine")(hbody:fu.body=some cd) :
  stepG P main (born P ⟨.fn (.func fn) c,#[]⟩) w=.go (G (Frame.enter P fn c .deferred) [bottom P]) w #[]:=by
 simp[born,G,stepG,unwind,callDeferred,invoke,callFunc,hf,hnum,hbody,GStep.after,bottom,seen]
theorem apply_spawn{P:Program}{fr:Frame}{cs:List Frame}{sm:Sem Next}{d:Deferred}{fn:Fn}{c:Array Value}(hk:(fr.kind==CallKind.early)=false)(hd:d.target=.fn fn c)(hrun:sm.run P w=.ok (.spawn d) w)(hevs:sm.events P w #[]=#[]) :
  stepG.apply P true fr cs none sm w=.spawn (G (fr.finish undef) cs) (born P d) w #[]:=by
 simp[stepG.apply,hrun,hevs,hk,hd,G,GStep.after,seen,born,-Sem.events_bind]
theorem spawn_step{s:S}{g:Goroutine}{ops:Array Oper}{i:Nat}{o:Oper}{rest:List Oper}{k:List AI}{tmps:Array Value}{k':List Item}{defers:List Deferred}{cs:List Frame}{cl:Call}{v:Operand}{fn:FuncId}{first captured:Array Value}
  (ha:OpAt f bot s ops i o rest k g tmps k' defers cs) (hw:zX ops s.fr o=true) (eo:o.op=.go cl) (ec:cl.callee=.value v) (eargs:cl.args.toList=[]) (ev:s.fr.ev v=some (.func (.func fn) first captured)) (efirst:first.toList=[]) :
  ∃ c',VsRel f captured.toList c'.toList∧stepG p.prog main g w=.spawn (G (realF s.fr (putDst o.dst tmps undef) (.inRegion ops (List.range' (i+1) rest.length)::k') defers none) (cs++bot)) (born p.prog ⟨.fn (.func fn) c',#[]⟩) w #[]:=by
 have hev:=ha.temps.ev (fr:=realF s.fr tmps (.inRegion ops (List.range' i (o::rest).length)::k') defers none) rfl;have hv:=hev _ _ ev;generalize hv':(realF s.fr tmps (.inRegion ops (List.range' i (o::rest).length)::k') defers none).eval v=v' at hv;cases hv with
 |func hfn h1 h2=>
  rename_i a' c';refine⟨c',h2,?_⟩;have ha':a'=#[]:=by
   rw[efirst] at h1;apply Array.toList_inj.1;cases hl:a'.toList with
   |nil=>rfl
   |cons y l=>rw[hl] at h1;cases h1
  subst ha';have eargs':cl.args=#[]:=by apply Array.toList_inj.1;simpa using eargs
  have key:∀ ρ:Operand→Value,ρ v=.func (.func fn) #[] c'→(execOp ρ o).run p.prog w=.ok (.spawn ⟨.fn (.func fn) c',#[]⟩) w∧(execOp ρ o).events p.prog w #[]=#[]:=by intro ρ hρ;constructor<;>simp[execOp,eo,resolve,ec,eargs',hρ,Deferred.ofValue]
  obtain⟨hrun,hevs⟩:=key _ hv';have hst:=stepG_at (p:=p) (main:=main) (s:=s) (rest:=rest) (k':=k') (cs:=cs++bot) (w:=w) (defers:=defers) (round:=none) (tmps:=tmps) ha.ret (zna ha.drop).1 (by rw[wanted_rel ha.temps];exact hw) (fun _ _=>rfl);have hfin:=finish_at (fr:=s.fr) (tmps:=tmps) (k':=k') (defers:=defers) (round:=none) (rest:=rest) (zna ha.drop).1 undef;rw[ha.g,hst,←hfin];have hk:((realF s.fr tmps (.inRegion ops (List.range' i (o::rest).length)::k') defers none).kind==CallKind.early)=false:=by simp only[realF];cases s.fr.deferred<;>rfl
  exact apply_spawn hk rfl hrun hevs
end
end
section
open Go.Conc Go.ConcN Go.Conc.Lib Go.ConcR.Gen Go.ConcN.Gen
open Go.ConcR (KK wgBlock WgAt stA smA rd wr mk Payload DC0)
def AtCall(p:Tab)(fn:FuncId)(chk:List Value→Bool)(bot:List Frame)(Sh:Loc→Prop)(x1 y:L)(f0:Inj)(Mi:Loc→Prop)(g:Goroutine)(w:World):Prop:=
 ∃(ops:Array Oper) (i:Nat) (o:Oper) (rest:List Oper) (k:List AI) (args:List Value) (h:AHeap) (fr:AF) (tmps:Array Value) (k':List Item) (defers:List Deferred) (cs:List Frame) (args':Array Value) (g1:Goroutine) (f1 f':Inj),
  BackAt p fn chk x1 y ops i o rest k args h fr∧OpAt f1 bot x1.s ops i o rest k g1 tmps k' defers cs∧f0.le f1∧f1.le f'∧VsRel f' args args'.toList∧HRel f' (fun l=>Mi l∨Sh l) Mi h w ∧
   g=G (Frame.enter p.prog fn args' .normal) (realF x1.s.fr tmps (.inRegion ops (List.range' i (o::rest).length)::k') defers none::(cs++bot))
section
variable {p:Tab}{pl:T (T (List Phase))}{f:Inj}{Mi Sh:Loc→Prop}{main:Bool}{w:World}{bot:List Frame}{L0:World→Prop}
theorem atCall(hp:TabOk p)(hmix:p.prog.follows .mixedOrders=true){fn:FuncId}{chk:List Value→Bool}{q:L→Bool}{n:Nat}{x x1 y:L}{g:Goroutine}
  (h1:runTo p pl q n x=some x1) (h2:zNa p fn chk x1=some y) (hr:XRel f Mi Sh bot x g w):∃ m,GoesX p.prog main Sh L0 (AtCall p fn chk bot Sh x1 y f) m Mi g w:=
 toCall (mQ:=0) hp hmix h1 h2 hr fun hb ha hf1 hf2 hv hh=>.here fun w1 hw1=>⟨_,_,_,_,_,_,_,_,_,_,_,_,_,_,_,_,hb,ha,hf1,hf2,hv,hh.env hw1.1,rfl⟩
end
section
variable [Payload]
variable {p:Tab}{pl:T (T (List Phase))}{Lk:WgLink}{Wg C nC:Nat}{xB xW:Base}{vals:List (List Value)}{c:Cfg}{hn:c.n<2147483647}{hCW:C≠Wg}{hCB:C≠xB.blk}{w0:World}{hWN:w0.heap.size≤Wg}{hCN:w0.heap.size≤C}
def J(Lk:WgLink)(Wg C nC:Nat)(xB:Base)(w0:World)(n k:Nat)(Mi:Loc→Prop)(w:World):Prop:=
 WgLive Lk.tWg Wg w∧PayAt C nC w∧(∀ i,¬ Mi (cellAt Wg i))∧(∀ l,Rem xB n k l→Mi l)∧(∀ l b,Mi l→locBlk l=some b→w0.heap.size≤b)∧w0.heap.size≤w.heap.size
def ShOk(w0:World)(Wg:Nat)(Sh:Loc→Prop):Prop:=(∀ i,¬ Sh (cellAt Wg i))∧∀ l b,Sh l→locBlk l=some b→w0.heap.size≤b
theorem J.rely{n k:Nat}{Mi Sh:Loc→Prop}{w w1:World}(h:J Lk Wg C nC xB w0 n k Mi w)(hr:Rely (WgLive Lk.tWg Wg) (fun l=>Mi l∨Sh l) w w1):J Lk Wg C nC xB w0 n k Mi w1:=⟨hr.2 h.1,hr.1.pay h.2.1,h.2.2.1,h.2.2.2.1,h.2.2.2.2.1,Nat.le_trans h.2.2.2.2.2 hr.1.size⟩
theorem J.did{n k:Nat}{Mi Mi' Sh:Loc→Prop}{w w':World}{es:Array Event}(h:J Lk Wg C nC xB w0 n k Mi w)(hd:Did Mi Sh w w' es Mi'):J Lk Wg C nC xB w0 n k Mi' w':=by
 obtain⟨⟨st,sm,hwg⟩,i2,i3,i4,i5,i6⟩:=h;refine⟨⟨st,sm,hd.env.wg (fun i=>i3 i) hwg⟩,hd.env.pay i2,fun i hm=>?_,fun l hl=>(hd.mine l).2 (.inl (i4 l hl)),fun l b hl hb=>?_,Nat.le_trans i6 hd.env.size⟩
 rotate_left
 ·rcases(hd.mine _).1 hl with hm|⟨b',hb',h1,_⟩
  ·exact i5 l b hm hb
  ·rw[hb] at hb';cases hb';omega
 rcases(hd.mine _).1 hm with hm|⟨b,hb,h1,_⟩
 ·exact i3 i hm
 ·cases hb;have h2:Wg<w.heap.size:=(Array.getElem?_eq_some_iff.1 hwg).1;have h3:w.heap.size≤Wg:=h1;omega
theorem J.keep{n k:Nat}{Mi Sh:Loc→Prop}{w:World}{P:Program}{main:Bool}{Q:(Loc→Prop)→Goroutine→World→Prop}{m:Nat}{g:Goroutine}(h:GoesX P main Sh (WgLive Lk.tWg Wg) Q m Mi g w)(hJ:J Lk Wg C nC xB w0 n k Mi w) :
  GoesX P main Sh (WgLive Lk.tWg Wg) (fun Mi g w=>Q Mi g w∧J Lk Wg C nC xB w0 n k Mi w) m Mi g w:=
 h.keep (fun _ _ _ h hr=>h.rely hr) (fun _ _ _ _ _ h hd=>h.did hd) hJ
theorem args_add{f':Inj}{bW:Nat}{args:List Value}{args':Array Value}(hc:argsAdd bW args=true)(hv:VsRel f' args args'.toList)(hbW:f' bW=some xW)(h0:xW.off=0):args'=#[.pointer (some ⟨xW.blk,0,none⟩),.int .i64 1]:=by
 unfold argsAdd at hc;split at hc
 ·obtain rfl:=Nat.eq_of_beq_eq_true hc;obtain⟨al⟩:=args';cases hv with
  |cons hv1 ht=>
   cases hv1 with
   |ptr hb'=>
    cases ht with
    |cons hv2 ht2=>cases ht2;cases hv2;rw[hbW] at hb';cases hb';rw[h0]
 ·cases hc
theorem args_wg{f':Inj}{bW:Nat}{args:List Value}{args':Array Value}(hc:zjc bW args=true)(hv:VsRel f' args args'.toList)(hbW:f' bW=some xW)(h0:xW.off=0):args'=#[.pointer (some ⟨xW.blk,0,none⟩)]:=by
 unfold zjc at hc;split at hc
 ·obtain rfl:=Nat.eq_of_beq_eq_true hc;obtain⟨al⟩:=args';cases hv with
  |cons hv1 ht=>
   cases ht;cases hv1 with
   |ptr hb'=>rw[hbW] at hb';cases hb';rw[h0]
 ·cases hc
theorem lib_frame{f:Inj}{bot:List Frame}{s:S}{ops:Array Oper}{i:Nat}{o:Oper}{rest:List Oper}{k:List AI}{g:Goroutine}{tmps:Array Value}{k':List Item}{defers:List Deferred}{cs:List Frame}(ha:OpAt f bot s ops i o rest k g tmps k' defers cs) :
  realF s.fr tmps (.inRegion ops (List.range' i (o::rest).length)::k') defers none=(realF s.fr tmps [] [] none).at ⟨tmps,defers⟩ (.inRegion ops (i::List.range' (i+1) rest.length)::k') ∧
  (realF s.fr tmps [] [] none).at ((⟨tmps,defers⟩:Act).put ((ops[i]?).bind (·.dst)) (.tuple #[])) (.inRegion ops (List.range' (i+1) rest.length)::k')=realF s.fr (putDst o.dst tmps (.tuple #[])) (.inRegion ops (List.range' (i+1) rest.length)::k') defers none:=by
 constructor
 ·rw[realF_at ha.ret tmps [] []];simp only[List.length_cons,List.range'_succ]
 ·rw[(zna ha.drop).1,Option.bind_some,put_eq,realF_at (tmps:=putDst o.dst tmps (.tuple #[])) ha.ret tmps [] []]
variable {Next:(Loc→Prop)→(Loc→Prop)→Goroutine→World→Prop}{bot:List Frame}
def EndOk(p:Tab)(Lk:WgLink)(c:Cfg)(Wg C nC:Nat)(xB xW:Base)(w0:World)(X:Crew)(Next:(Loc→Prop)→(Loc→Prop)→Goroutine→World→Prop)(bot:List Frame)(y:L):Prop:=
 ∀(f:Inj) (M Sh:Loc→Prop) (g:Goroutine) (w:World) (x1:L),AtCall p Lk.wait (zjc c.bW) bot Sh x1 y f M g w→f c.bW=some xW→f c.bB=some xB→J Lk Wg C nC xB w0 c.n c.n M w→ShOk w0 Wg Sh →
  YFin X.P X.ty X.Wg (fun l=>M l∨Sh l) X.Joined (Next M Sh) g w
theorem forkA_some{x:L}{fn:FuncId}{args:List Value}{fr:AF}(h:forkA x=some (fn,args,fr)):∃ ops i o rest k cl v first captured,x=⟨x.s,none,[]⟩∧x.s.fr.ret=false∧x.s.fr.round=none∧x.s.fr.todo=.reg ops i (o::rest)::k ∧
  o.op=.go cl∧cl.callee=.value v∧zX ops x.s.fr o=true∧cl.args.toList=[]∧x.s.fr.ev v=some (.func (.func fn) first captured)∧first.toList=[]∧captured.toList=args∧zta x.s.fr o undef (.reg ops (Nat.succ i) rest::k)=some fr:=by
 unfold forkA at h;split at h
 ·next ops i o rest k e1 e2 e3=>
  split at h
  ·next cl e4=>
   split at h
   ·next v e5=>
    split at h
    ·next g first captured fr' e6 e7 e8 e9=>
     split at h
     ·next e10=>cases h;obtain⟨a,b,d⟩:=opAt_some e3;refine⟨ops,i,o,rest,k,cl,v,first,captured,?_,b,e2,d,e4,e5,e6,e7,e8,e10,rfl,e9⟩;obtain⟨s,reg,lay⟩:=x;simp only at a e1;subst a;subst e1;rfl
     ·cases h
    ·cases h
   ·cases h
  ·cases h
 ·cases h
theorem owns_lt{h:AHeap}{b:Nat}(h1:h.owns b=true):h.lo≤b:=by unfold AHeap.owns at h1;rw[Bool.and_eq_true] at h1;exact Nat.le_of_ble_eq_true h1.1
theorem inList_two{bB k b i:Nat}(h:inList b i 1 [(bB,Nat.mul 2 k,2)]=true):b=bB∧∃ j,j<2∧i=2*k+j:=by simp only[inList,Bool.or_false,Bool.and_eq_true] at h;obtain⟨⟨h1,h2⟩,h3⟩:=h;have h2':2*k≤i:=Nat.le_of_ble_eq_true h2;have h3':i+1≤2*k+2:=Nat.le_of_ble_eq_true h3;exact⟨Nat.eq_of_beq_eq_true h1,i-2*k,by omega,by omega⟩
theorem go_point(H:WgLib p.prog Lk)(hp:TabOk p)(hmix:p.prog.follows .mixedOrders=true)(hdone:c.done=Lk.done)(hnC:c.n≤nC){Then:(Loc→Prop)→(Loc→Prop)→Goroutine→World→Prop}{k:Nat}(hk:k<c.n){x:L}{fn:FuncId}{args:List Value}{fr cf:AF}{vk:List Value}
  {f:Inj} {M Sh:Loc→Prop} {g:Goroutine} {w:World} (hr:XRel f M Sh bot x g w) (e1:forkA x=some (fn,args,fr)) (e2:zda x.s.h c.bB (Nat.mul 2 c.n)=true) (e3:zIa p fn args true=some cf)
  (e4:zfc p pl c k ⟨⟨cf,[],{x.s.h with lo:=x.s.h.next,wl:=[(c.bB,Nat.mul 2 k,2)]}⟩,none,[]⟩=some vk) (hvk:vals.getD k []=vk)
  (hbW:f c.bW=some xW) (hxW:xW.blk=Wg) (hxO:xW.off=0) (hbB:f c.bB=some xB) (hJ:J Lk Wg C nC xB w0 c.n k M w) (hSh:ShOk w0 Wg Sh)
  (hThen:∀(M' S':Loc→Prop) (g':Goroutine),XRel f M' S' bot ⟨{x.s with fr,h:={x.s.h with lo:=x.s.h.next,wl:=[]}},none,[]⟩ g' w→J Lk Wg C nC xB w0 c.n (k+1) M' w→ShOk w0 Wg S'→Then M' S' g' w) :
  AtGo (Crw p Lk c.n Wg C nC xB.blk xB.off vals hn hCW hCB w0 hWN hCN) k Then Sh M g w:=by
 obtain⟨ops,i,o,rest,kk,cl,v,first,captured,a1,a2,a3,a4,a5,a6,a7,a8,a9,a10,a11,a12⟩:=forkA_some e1;have hs:SRel f M Sh bot x.s g w:=by rw[a1] at hr;exact hr.flat
 obtain⟨tmps,k',defers,cs,ha⟩:=hs.opAt a2 a3 a4;obtain⟨c',v1,v2⟩:=spawn_step (p:=p) (main:=true) (w:=w) ha a7 a5 a6 a8 a9 a10;rw[a11] at v1;obtain⟨j1,j2,j3,j4,j5,j6⟩:=hJ;obtain⟨fu,cd,hfu,hcd⟩:∃ fu cd,p.funcs.get fn=some fu∧fu.body=some cd:=by
  unfold zIa at e3;split at e3
  ·next fu e=>
   split at e3
   ·next cd e'=>exact⟨fu,cd,e,e'⟩
   ·cases e3
  ·cases e3
 have hmv:∀{M1:Loc→Prop} {wl:List (Nat×Nat×Nat)},(∀ b x i,f b=some x→inList b i 1 wl=true→M1 (cellAt x.blk (x.off+i))) →
   HRel f (fun l=>M1 l∨((Sh l∨M l)∧¬ Rem xB c.n 0 l)) M1 {x.s.h with lo:=x.s.h.next,wl:=wl} w:=by
  intro M1 wl hp;refine hs.heap.move e2 hbB rfl rfl (fun l hl hne=>.inr ⟨hl.symm,fun hrem=>?_⟩) (fun b x hx ho=>?_) hp
  ·obtain⟨i,j,_,_,_,d⟩:=hrem;exact hne _ d
  ·have:=owns_lt ho;have:=hs.heap.lt hx;simp only at *;omega
 have hW0:∀{k0:Nat} (i:Nat),k≤k0→¬ Rem xB c.n k0 (cellAt Wg i):=fun i hk0 hrem=>j3 i (j4 _ (let⟨i',j,a,b,d,e⟩:=hrem;⟨i',j,by omega,b,d,e⟩))
 have hchild:WWorks (Crw p Lk c.n Wg C nC xB.blk xB.off vals hn hCW hCB w0 hWN hCN) (k+1) (One xB k) (fun l=>(Sh l∨M l)∧¬ Rem xB c.n 0 l) (G (Frame.enter p.prog fn c' .deferred) [bottom p.prog]) w:=by refine worker_goes H hp hmix hdone e4 hvk ?_ hbW hxW hxO hbB j1 j2 (fun i ho=>hW0 (k0:=k) i (Nat.le_refl _) (Rem.one hk ho)) (by omega);refine SRel.flat (s:=⟨cf,[],_⟩) ⟨⟨_,[],rfl,zib hp v1 e3 rfl,.nil⟩,hmv fun b x' i' hx hi=>?_⟩;obtain⟨rfl,j,hj,rfl⟩:=inList_two hi;rw[hbB] at hx;cases hx;exact⟨j,hj,rfl⟩
 obtain⟨mc,hG⟩:=hchild;refine⟨by rw[ha.g];rfl,_,_,v2,rfl,Rem xB c.n (k+1),(fun l=>(Sh l∨M l)∧¬ Rem xB c.n 0 l),One xB k,(fun l=>(Sh l∨M l)∧¬ Rem xB c.n 0 l),fun l hl=>j4 l hl.succ,fun l hl=>hl.1,fun l hl=>j4 l (Rem.one hk hl),fun l hl=>hl.1,
  fun l hl=>⟨hl.not_one,fun h=>h.2 hl.zero⟩,fun l hl h=>h.2 (Rem.one hk hl).zero,fun l ⟨i',hi',e⟩=>⟨i',hi',e⟩,⟨mc+1,?_⟩,?_⟩
 ·exact .step rfl fun w1 h1=>⟨_,w1,#[],_,born_step (hp.funcs _ _ hfu) (hp.num _ _ hfu) hcd,.quiet,hG.rely h1⟩
 ·refine hThen _ _ _ ?_ ⟨j1,j2,fun i=>hW0 i (by omega),fun l hl=>hl,fun l b hl hb=>j5 l b (j4 l hl.succ) hb,j6⟩ ⟨fun i h=>h.1.elim (hSh.1 i) (j3 i),fun l b h hb=>h.1.elim (fun x=>hSh.2 l b x hb) (fun x=>j5 l b x hb)⟩;refine SRel.flat (call_back (f':=f) ha a12 f.le_refl (v':=undef) (.tuple .nil) (hmv fun b x i _ hi=>by simp[inList] at hi))
theorem starts_sound(H:WgLib p.prog Lk)(hp:TabOk p)(hmix:p.prog.follows .mixedOrders=true)(hadd:c.add=Lk.add)(hdone:c.done=Lk.done)(hwait:c.wait=Lk.wait)(hnC:c.n≤nC)(hxW:xW.blk=Wg)(hxO:xW.off=0){y:L}
  (hEnd:EndOk p Lk c Wg C nC xB xW w0 (Crw p Lk c.n Wg C nC xB.blk xB.off vals hn hCW hCB w0 hWN hCN) Next bot y) :
  ∀(r k:Nat) {x:L} {l:List (List Value)} {f:Inj} {M Sh:Loc→Prop} {g:Goroutine} {w:World},startsA p pl c r k x=some (l,y)→k+r=c.n→(∀ j,vals.getD (k+j) []=l.getD j [])→XRel f M Sh bot x g w →
   f c.bW=some xW→f c.bB=some xB→J Lk Wg C nC xB w0 c.n k M w→ShOk w0 Wg Sh→zRb (Crw p Lk c.n Wg C nC xB.blk xB.off vals hn hCW hCB w0 hWN hCN) Next r M Sh g w
 |0,k,x,l,f,M,Sh,g,w,hs,hkr,hv,hr,hbW,hbB,hJ,hSh=>by
  simp only[startsA] at hs;split at hs
  ·next x1 e1=>
   split at hs
   ·next y' e2=>
    cases hs;rw[hwait] at e2;obtain⟨m,hG⟩:=atCall (main:=true) (L0:=WgLive Lk.tWg Wg) hp hmix e1 e2 hr;refine⟨m,(J.keep hG hJ).mono fun Mi g w hq=>?_⟩;obtain rfl:k=c.n:=by omega
    exact hEnd f Mi Sh g w x1 hq.1 hbW hbB hq.2 hSh
   ·cases hs
  ·cases hs
 |r+1,k,x,l,f,M,Sh,g,w,hs,hkr,hv,hr,hbW,hbB,hJ,hSh=>by
  simp only[startsA] at hs;split at hs
  ·cases hs
  next x1 e1=>
  split at hs
  ·cases hs
  next x2 e2=>
  split at hs
  ·cases hs
  next x3 e3=>
  split at hs
  ·next fn args fr e4 e5=>
   split at hs
   ·cases hs
   next cf e6=>
   split at hs
   ·cases hs
   next vk e7=>
   split at hs
   ·next l' y' e8=>
    cases hs;have hk:k<c.n:=by omega
    have hvk:vals.getD k []=vk:=by have:=hv 0;simpa using this
    rw[hadd] at e2;obtain⟨_,m3,hm3⟩:=runTo_some e3;obtain⟨m,hG⟩:=atCall (main:=true) (L0:=WgLive Lk.tWg Wg) hp hmix e1 e2 hr;refine⟨m,(J.keep hG hJ).mono fun Mi g w hq=>?_⟩;obtain⟨⟨ops,i,o,rest,kk,args',h',fr',tmps,k',defers,cs,args'',g1,f1,f',hb,ha,hf1,hf2,hva,hh,rfl⟩,hJ1⟩:=hq;have hbW':=hf2 _ _ (hf1 _ _ hbW);have hbB':=hf2 _ _ (hf1 _ _ hbB);have hargs:=args_add hb.chk hva hbW' hxO;rw[hxW] at hargs;obtain⟨lf1,lf2⟩:=lib_frame ha;refine⟨40,?_⟩;rw[hargs,enter_add H,lf1];have hex:c.n-(r+1)=k:=by omega
    refine addPosX (F:=fun w=>HRel f' (fun l=>Mi l∨Sh l) Mi h' w∧PayAt C nC w∧w0.heap.size≤w.heap.size) (mT:=costL p pl m3 x2) H (fun i h=>h.elim (hJ1.2.2.1 i) (hSh.1 i)) (fun w w' he hF=>⟨hF.1.env he,he.pay hF.2.1,Nat.le_trans hF.2.2 he.size⟩) ?_ w ⟨⟨hh,hJ1.2.1,hJ1.2.2.2.2.2⟩,hJ1.1⟩;intro w2 hF hl2;rw[lf2];have hx2:XRel f' Mi Sh bot x2 (G (realF x1.s.fr (putDst o.dst tmps (.tuple #[])) (.inRegion ops (List.range' (i+1) rest.length)::k') defers none) (cs++bot)) w2:=by rw[hb.ey];exact SRel.flat (call_back ha hb.dst hf2 (v':=.tuple #[]) (.tuple .nil) hF.1)
    have hJ2:J Lk Wg C nC xB w0 c.n k Mi w2:=⟨hl2,hF.2.1,hJ1.2.2.1,hJ1.2.2.2.1,hJ1.2.2.2.2.1,hF.2.2⟩;refine(J.keep (runL_sound (L0:=WgLive Lk.tWg Wg) hp hmix m3 hm3 hx2) hJ2).mono fun Mi3 g3 w3 hq3=>?_
    obtain⟨⟨f3,hf3,hx3⟩,hJ3⟩:=hq3;show AtGo _ (c.n-(r+1)) _ Sh Mi3 g3 w3;rw[hex];exact go_point H hp hmix hdone hnC hk hx3 e4 e5 e6 e7 hvk (hf3 _ _ hbW') hxW hxO (hf3 _ _ hbB') hJ3 hSh fun M' S' g' hx4 hJ4 hS4=>
     starts_sound H hp hmix hadd hdone hwait hnC hxW hxO hEnd r (k+1) e8 (by omega) (fun j=>by have:=hv (j+1);rw[show k+1+j=k+(j+1) by omega];simpa using this) hx4 (hf3 _ _ hbW') (hf3 _ _ hbB') hJ4 hS4
   ·cases hs
  ·cases hs
end
end
section
open Go.Conc Go.ConcN Go.Conc.Lib Go.ConcR.Gen Go.ConcN.Gen
open Go.ConcR (KK wgBlock WgAt stA smA rd wr mk Payload DC0)
section
variable {f:Inj}{K Mi:Loc→Prop}{w:World}{h:AHeap}{b n:Nat}
theorem wf_put{c c':List (Option Value)}{u r ba:Nat}{m:List Nat}(hw:WF h)(e:h.objs.get b=some (.cells c u r ba m)){h1:AHeap}(h1o:h1.objs=h.objs.set b (.cells c' u r ba m))(h1n:h1.next=h.next):WF h1:=by
 have hmem:∀ r',members h1.objs r'=members h.objs r':=by
  intro r';rw[h1o];unfold members;by_cases hr:r'=b
  ·subst hr;rw[T.get_set_same,e]
  ·rw[T.get_set_ne _ _ hr]
 refine⟨fun i o ho=>?_,fun i c1 u1 r1 ba1 m1 ho=>?_,fun r1 i hi=>?_⟩
 ·rw[h1o] at ho;rw[h1n];by_cases hi:i=b
  ·subst hi;exact hw.lt _ _ e
  ·rw[T.get_set_ne _ _ hi] at ho;exact hw.lt _ _ ho
 ·rw[hmem];rw[h1o] at ho ⊢;have old:∃ c2 m2,h.objs.get i=some (.cells c2 u1 r1 ba1 m2):=by
   by_cases hi:i=b
   ·subst hi;rw[T.get_set_same] at ho;cases ho;exact⟨_,_,e⟩
   ·rw[T.get_set_ne _ _ hi] at ho;exact⟨_,_,ho⟩
  obtain⟨c2,m2,ho'⟩:=old;obtain⟨k1,k2,c3,x3,m3,k3⟩:=hw.mem _ _ _ _ _ _ ho';refine⟨k1,k2,?_⟩;by_cases hr:r1=b
  ·subst hr;rw[e] at k3;cases k3;exact⟨_,_,_,T.get_set_same _ _ _⟩
  ·exact⟨c3,x3,m3,by rw[T.get_set_ne _ _ hr];exact k3⟩
 ·rw[hmem] at hi;obtain⟨c2,x2,ba2,m2,k1⟩:=hw.kin r1 i hi;rw[h1o];by_cases hib:i=b
  ·subst hib;rw[e] at k1;cases k1;exact⟨_,_,_,_,T.get_set_same _ _ _⟩
  ·exact⟨c2,x2,ba2,m2,by rw[T.get_set_ne _ _ hib];exact k1⟩
theorem HRel.recell(hr:HRel f K Mi h w){c c':List (Option Value)}{u r ba:Nat}{m:List Nat}(e:h.objs.get b=some (.cells c u r ba m))(hlen:c'.length=c.length)
  {h1:AHeap} (h1o:h1.objs=h.objs.set b (.cells c' u r ba m)) (h1n:h1.next=h.next) {K1 M1:Loc→Prop}
  (hK:∀ b' x o,b'≠b→f b'=some x→h.objs.get b'=some o→ORel f K x o w→ORel f K1 x o w)
  (hc:∀ x,f b=some x→∀ rc ety,w.heap[x.blk]? = some (.cells rc ety (0,0))→∀ i v,c'[i]? = some (some v)→K1 (cellAt x.blk (x.off+i))∧∃ v',rc[x.off+i]? = some v'∧VRel f v v')
  (hm:∀ b x,f b=some x→h1.owns b=true→∀ l,locBlk l=some x.blk→M1 l) (hp:∀ b x i,f b=some x→inList b i 1 h1.wl=true→M1 (cellAt x.blk (x.off+i))) (hH:∀ b x,f b=some x→K1 (.obj x.blk)):HRel f K1 M1 h1 w:=by
 have get:∀{i:Nat} {o:AObj},h1.objs.get i=some o→∃ o',h.objs.get i=some o'∧rootOf i o=rootOf i o'∧baseOf o=baseOf o':=by
  intro i o ho;rw[h1o] at ho;by_cases hi:i=b
  ·subst hi;rw[T.get_set_same] at ho;cases ho;exact⟨_,e,rfl,rfl⟩
  ·rw[T.get_set_ne _ _ hi] at ho;exact⟨o,ho,rfl,rfl⟩
 refine⟨wf_put hr.wf e h1o h1n,fun b' x hx=>?_,hm,hp,fun i i' x x' o o' a1 a2 a3 a4 a5=>?_,fun i i' x x' o o' a1 a2 a3 a4 a5 a6=>?_,hH⟩
 ·obtain⟨o,k1,k2⟩:=hr.obj b' x hx;by_cases hb:b'=b
  ·subst hb;rw[e] at k1;cases k1;refine⟨_,by rw[h1o];exact T.get_set_same _ _ _,?_⟩;obtain⟨a1,rc,ety,a2,a3,a4,_⟩:=k2;exact⟨a1,rc,ety,a2,a3,by rw[hlen];exact a4,hc x hx rc ety a2⟩
  ·exact⟨o,by rw[h1o,T.get_set_ne _ _ hb];exact k1,hK b' x o hb hx k1 k2⟩
 ·obtain⟨o1,g1,g2,_⟩:=get a3;obtain⟨o2,g3,g4,_⟩:=get a4;exact hr.apart i i' x x' o1 o2 a1 a2 g1 g3 (by rw[←g2,←g4];exact a5)
 ·obtain⟨o1,g1,g2,g2'⟩:=get a3;obtain⟨o2,g3,g4,g4'⟩:=get a4;have:=hr.coord i i' x x' o1 o2 a1 a2 g1 g3 (by rw[←g2,←g4];exact a5) a6;rw[g2',g4'];exact this
theorem HRel.blank(hr:HRel f K Mi h w):HRel f K Mi {h with objs:=Cx.blank h.objs b} w:=by
 unfold Cx.blank;split
 ·next c u r ba m e=>exact hr.recell (h1:={h with objs:=h.objs.set b (.cells (c.map fun _=>none) u r ba m)}) e (by simp) rfl rfl (fun _ _ _ _ _ _ h=>h) (fun x hx rc ety _ i v hi=>by simp at hi) hr.mine hr.part hr.home
 ·exact hr
end
def zcc(w0:World)(Wg:Nat)(l:Loc):Prop:=∃ b,locBlk l=some b∧b≠Wg∧w0.heap.size≤b
theorem ORel.hold{f:Inj}{K K1:Loc→Prop}{x:Base}{o:AObj}{w:World}(h:ORel f K x o w)(hc:∀ c u r ba m i v,o=.cells c u r ba m→c[i]? = some (some v)→K1 (cellAt x.blk (x.off+i)))(ho:(∀ c u r ba m,o≠.cells c u r ba m)→K1 (.obj x.blk)):ORel f K1 x o w:=by
 match o,h with
 |.cells c u r ba m,⟨a1,rc,e,a2,a3,a4,a5⟩=>exact⟨a1,rc,e,a2,a3,a4,fun i v hi=>⟨hc _ _ _ _ _ i v rfl hi,(a5 i v hi).2⟩⟩
 |.map es,⟨a1,a2,a3⟩=>exact⟨a1,(ho fun _ _ _ _ _ h=>by cases h),a3⟩
 |.loop l,⟨a1,a2,a3⟩=>exact⟨a1,(ho fun _ _ _ _ _ h=>by cases h),a3⟩
 |.deferred none,⟨a1,a2,a3⟩=>exact⟨a1,(ho fun _ _ _ _ _ h=>by cases h),a3⟩
 |.deferred (some ds),⟨a1,a2,a3⟩=>exact⟨a1,(ho fun _ _ _ _ _ h=>by cases h),a3⟩
theorem flatten_get:∀{vals:List (List Value)} {i:Nat} {v:Value},(vals.all fun l=>Nat.beq l.length 2&&l.all (closed 1))=true→vals.flatten[i]? = some v→∃ k j,i=2*k+j∧j<2∧k<vals.length∧(vals.getD k [])[j]? = some v∧closed 1 v=true
 | [],i,v,_,h=>by simp at h
 |l::vals,i,v,hok,h=>by
  simp only[List.all_cons,Bool.and_eq_true] at hok;obtain⟨⟨h1,h2⟩,h3⟩:=hok;have hl:l.length=2:=Nat.eq_of_beq_eq_true h1;simp only[List.flatten_cons] at h;by_cases hi:i<2
  ·rw[List.getElem?_append_left (by omega)] at h;have hm:v∈l:=List.mem_of_getElem? h;exact⟨0,i,by omega,hi,by simp,by simpa using h,List.all_eq_true.1 h2 v hm⟩
  ·rw[List.getElem?_append_right (by omega),hl] at h;obtain⟨k,j,e1,e2,e3,e4,e5⟩:=flatten_get (by simpa using h3) h;exact⟨k+1,j,by omega,e2,by simpa using e3,by simpa using e4,e5⟩
theorem flatten_length:∀{vals:List (List Value)},(vals.all fun l=>Nat.beq l.length 2&&l.all (closed 1))=true→vals.flatten.length=2*vals.length
 | [],_=>rfl
 |l::vals,hok=>by simp only[List.all_cons,Bool.and_eq_true] at hok;obtain⟨⟨h1,h2⟩,h3⟩:=hok;have hl:l.length=2:=Nat.eq_of_beq_eq_true h1;have:=flatten_length (vals:=vals) (by simpa using h3);simp only[List.flatten_cons,List.length_append,List.length_cons];omega
section
variable [Payload]{p:Tab}{Lk:WgLink}{Wg C nC:Nat}{xB xW:Base}{vals:List (List Value)}{c:Cfg}{hn:c.n<2147483647}{hCW:C≠Wg}{hCB:C≠xB.blk}{w0:World}{hWN:w0.heap.size≤Wg}{hCN:w0.heap.size≤C}
theorem join_rel{f:Inj}{K Mi:Loc→Prop}{w:World}{h h2:AHeap}(hr:HRel f K Mi h w)(hf:fillA c vals h=some h2)(hbW:f c.bW=some xW)(hxW:xW.blk=Wg)(hbB:f c.bB=some xB)(hBW:c.bB≠c.bW)(hN:∀ b x,f b=some x→w0.heap.size≤x.blk)
  (hJ:(Crw p Lk c.n Wg C nC xB.blk xB.off vals hn hCW hCB w0 hWN hCN).Joined w):HRel f (fun l=>zcc w0 Wg l∨l=.obj Wg) (zcc w0 Wg) h2 w:=by
 unfold fillA at hf;split at hf
 ·next hb=>
  cases hf;simp only[Bool.and_eq_true] at hb;obtain⟨⟨b1,b2⟩,b3⟩:=hb;unfold okVals at b3;rw[Bool.and_eq_true] at b3;have hnv:vals.length=c.n:=Nat.eq_of_beq_eq_true b3.1;obtain⟨cc,u,e,n1,n2⟩:=zZ b1;obtain⟨cw,uw,ew,m1,m2⟩:=zZ b2;have hne:∀ b x,f b=some x→b≠c.bW→x.blk≠Wg:=fun b x hx hb he=>hb (hr.only b2 hbW hx (he.trans hxW.symm))
  refine hr.recell (b:=c.bB) (c':=vals.flatten.map some) (h1:={objs:=refill h.objs c.bB (vals.flatten.map some),next:=h.next,lo:=0,wl:=[],no:=c.bW}) e ?_ ?_ rfl (fun b' x o hb' hx ho hor=>?_) (fun x hx rc ety hrc i v hi=>?_) (fun b x hx ho l hl=>?_) (fun b x i hx hi=>by simp[inList] at hi) (fun b x hx=>?_)
  ·rw[List.length_map,flatten_length b3.2,n2,hnv];rfl
  ·simp only[refill,e]
  ·by_cases hbw:b'=c.bW
   ·subst hbw;rw[ew] at ho;cases ho;refine hor.hold (fun c' u' r' ba' m' i v he hi=>?_) ?_
    ·cases he;exact absurd hi (zDa m1 i v)
    ·intro h;exact absurd rfl (h _ _ _ _ _)
   ·have:=hne b' x hx hbw;exact hor.hold (fun _ _ _ _ _ i v _ _=>.inl ⟨_,rfl,this,hN _ _ hx⟩) (fun _=>.inl ⟨_,rfl,this,hN _ _ hx⟩)
  ·rw[hbB] at hx;cases hx;have hne':=hne _ _ hbB hBW;refine⟨.inl ⟨_,rfl,hne',hN _ _ hbB⟩,?_⟩;rw[List.getElem?_map] at hi;obtain⟨v',hv',hvv⟩:=Option.map_eq_some_iff.1 hi;cases hvv;obtain⟨k,j,q1,q2,q3,q4,q5⟩:=flatten_get b3.2 hv';have:=hJ k (by show k<c.n;omega) j v q2 q4;simp only[World.cell?,hrc] at this;rw[q1];exact⟨v,by simpa using this,zB 1 v q5⟩
  ·have hb:b≠c.bW:=by rintro rfl;simp[AHeap.owns,Nat.beq_refl] at ho
   exact⟨_,hl,hne b x hx hb,hN _ _ hx⟩
  ·by_cases hb:b=c.bW
   ·subst hb;rw[hbW] at hx;cases hx;exact .inr (by rw[hxW])
   ·exact .inl ⟨_,rfl,hne b x hx hb,hN _ _ hx⟩
 ·cases hf
end
end
section
open Go.Conc
def has(t:T AObj)(b:Nat):Bool:=match t.get b with|some _=>true|none=>false
def okV(t:T AObj):Nat→Value→Bool
 |0,_=>false
 |n+1,v=>
  match v with
  |.bool _|.int _ _|.string _|.pointer none|.slice none _ _|.map none|.nilFunc|.nilIface=>true
  |.pointer (some a)=>has t a.block
  |.slice (some a) _ _=>has t a.block
  |.map (some r)=>has t r
  |.func fn a c=>(match fn with|.yield l=>has t l|_=>true)&&a.toList.all (okV t n)&&c.toList.all (okV t n)
  |.iface _ v=>okV t n v
  |.agg a=>a.toList.all (okV t n)
  |.tuple a=>a.toList.all (okV t n)
  |_=>false
def allT{α:Type}(q:α→Bool):T α→Bool
 |.e=>true
 |.n l v r=>(match v with|none=>true|some x=>q x)&&allT q l&&allT q r
theorem zub{α:Type}{q:α→Bool}:∀{t:T α} {k:Nat} {v:α},allT q t=true→t.get k=some v→q v=true
 |.e,k,v,_,h=>by rw[T.get_e] at h;cases h
 |.n l x r,k,v,ha,h=>by
  simp only[allT,Bool.and_eq_true] at ha;obtain⟨⟨h1,h2⟩,h3⟩:=ha;unfold T.get at h;split at h
  ·subst h;exact h1
  ·split at h
   ·exact zub h2 h
   ·exact zub h3 h
def kept(f:Inj)(t:T AObj):Inj:=fun b=>match has t b with|true=>f b|false=>none
theorem zrb(f:Inj)(t:T AObj):(kept f t).le f:=by
 intro b x h;unfold kept at h;split at h
 ·exact h
 ·cases h
theorem zbb{f:Inj}{t:T AObj}{b:Nat}{x:Base}(h:f b=some x)(hk:has t b=true):kept f t b=some x:=by unfold kept;rw[hk];exact h
mutual
theorem VRel.kept{f:Inj}{t:T AObj}:∀{n:Nat} {v v':Value},VRel f v v'→okV t n v=true→VRel (kept f t) v v'
 |0,_,_,_,h=>by simp[okV] at h
 |_+1,_,_,.bool b,_=>.bool b
 |_+1,_,_,.int k n,_=>.int k n
 |_+1,_,_,.string s,_=>.string s
 |_+1,_,_,.ptrNil,_=>.ptrNil
 |_+1,_,_,.ptr h,hk=>.ptr (zbb h hk)
 |_+1,_,_,.sliceNil n c,_=>.sliceNil n c
 |_+1,_,_,.slice h hc he hu,hk=>.slice (zbb h hk) hc he hu
 |_+1,_,_,.mapNil,_=>.mapNil
 |_+1,_,_,.map h,hk=>.map (zbb h hk)
 |n+1,_,_,.func hfn h1 h2,hk=>by simp only[okV,Bool.and_eq_true] at hk;exact .func hfn (h1.kept hk.1.2) (h2.kept hk.2)
 |n+1,_,_,.yield h,hk=>by simp only[okV,Bool.and_eq_true] at hk;exact .yield (zbb h hk.1.1)
 |_+1,_,_,.nilFunc,_=>.nilFunc
 |_+1,_,_,.nilIface,_=>.nilIface
 |n+1,_,_,.iface t h,hk=>.iface t (h.kept (n:=n) (by simpa[okV] using hk))
 |n+1,_,_,.agg h,hk=>.agg (h.kept (n:=n) (by simpa[okV] using hk))
 |n+1,_,_,.tuple h,hk=>.tuple (h.kept (n:=n) (by simpa[okV] using hk))
theorem VsRel.kept{f:Inj}{t:T AObj}:∀{n:Nat} {l l':List Value},VsRel f l l'→l.all (okV t n)=true→VsRel (kept f t) l l'
 |_,_,_,.nil,_=>.nil
 |n,_,_,.cons h tl,hk=>by simp only[List.all_cons,Bool.and_eq_true] at hk;exact .cons (h.kept hk.1) (tl.kept hk.2)
end
def okI(t:T AObj)(i:AI):Bool:=match i with|.inRF l=>has t l|.endRF l=>has t l|_=>true
def okD(t:T AObj)(n:Nat)(d:Deferred):Bool:=match d.target with|.collected b=>has t b|.fn _ c=>c.toList.all (okV t n)&&d.args.toList.all (okV t n)|_=>false
def okF(t:T AObj)(n:Nat)(a:AF):Bool:=allT (okV t n) a.tmps&&a.todo.all (okI t)&&a.defers.all (okD t n)&&(match a.round with|none=>true|some l=>has t l)
def okO(t:T AObj)(n:Nat)(o:AObj):Bool:=
 match o with
 |.cells c _ r _ m=>c.all (fun x=>match x with|none=>true|some v=>okV t n v)&&has t r&&m.all (has t)
 |.map es=>es.all fun e=>okV t n e.1&&okV t n e.2
 |.loop l=>allT (okV t n) l.tmps&&has t l.defers
 |.deferred none=>true
 |.deferred (some ds)=>ds.all (okD t n)
theorem DRel.kept{f:Inj}{t:T AObj}{n:Nat}{d d':Deferred}(h:DRel f d d')(hk:okD t n d=true):DRel (kept f t) d d':=by
 cases h with
 |fn hfn h1 h2=>simp only[okD,Bool.and_eq_true] at hk;exact .fn hfn (h1.kept hk.1) (h2.kept hk.2)
 |collected h=>exact .collected (zbb h hk)
theorem DsRel.kept{f:Inj}{t:T AObj}{n:Nat}:∀{l l':List Deferred},DsRel f l l'→l.all (okD t n)=true→DsRel (kept f t) l l'
 |_,_,.nil,_=>.nil
 |_,_,.cons h tl,hk=>by simp only[List.all_cons,Bool.and_eq_true] at hk;exact .cons (h.kept hk.1) (tl.kept hk.2)
theorem IRel.kept{f:Inj}{t:T AObj}{a:AI}{b:Item}(h:IRel f a b)(hk:okI t a=true):IRel (kept f t) a b:=by
 cases h with
 |code c=>exact .code c
 |inBlock id=>exact .inBlock id
 |inLoop c=>exact .inLoop c
 |inScope c=>exact .inScope c
 |reg h=>exact .reg h
 |inRF h=>exact .inRF (zbb h hk)
 |endRF h=>exact .endRF (zbb h hk)
 |beginRound=>exact .beginRound
theorem IsRel.kept{f:Inj}{t:T AObj}:∀{l:List AI} {l':List Item},IsRel f l l'→l.all (okI t)=true→IsRel (kept f t) l l'
 |_,_,.nil,_=>.nil
 |_,_,.cons h tl,hk=>by simp only[List.all_cons,Bool.and_eq_true] at hk;exact .cons (h.kept hk.1) (tl.kept hk.2)
theorem VRel.keptD{f:Inj}{t:T AObj}{n i:Nat}{m:T Value}{vv:Value}(this:VRel f ((m.get i).getD undef) vv)(hk:allT (okV t n) m=true):VRel (Cx.kept f t) ((m.get i).getD undef) vv:=by
 cases e:m.get i with
 |none=>
  rw[e] at this;simp only[Option.getD_none] at this ⊢;cases this with
  |tuple h=>rename_i a';obtain⟨al⟩:=a';cases h;exact .tuple .nil
 |some v=>rw[e] at this;exact this.kept (zub hk e)
theorem TRel.kept{f:Inj}{t:T AObj}{n:Nat}{m:T Value}{a:Array Value}(h:TRel f m a)(hk:allT (okV t n) m=true):TRel (kept f t) m a:=fun i=>(h i).keptD hk
theorem FRel.kept{f:Inj}{t:T AObj}{n:Nat}{a:AF}{fr:Frame}(h:FRel f a fr)(hk:okF t n a=true):FRel (kept f t) a fr:=by
 obtain⟨tmps,todo,defers,round,h1,h2,h3,h4,h5,h6⟩:=h.ex;simp only[okF,Bool.and_eq_true] at hk;obtain⟨⟨⟨k1,k2⟩,k3⟩,k4⟩:=hk;refine⟨tmps,todo,defers,round,h1,h2,h3.kept k1,h4.kept k2,h5.kept k3,?_⟩;generalize a.round=ro at h6 k4 ⊢;cases h6 with
 |none=>exact .none
 |some hl=>exact .some (zbb hl k4)
theorem FsRel.kept{f:Inj}{t:T AObj}{n:Nat}:∀{l:List AF} {l':List Frame},FsRel f l l'→l.all (okF t n)=true→FsRel (kept f t) l l'
 |_,_,.nil,_=>.nil
 |_,_,.cons h tl,hk=>by simp only[List.all_cons,Bool.and_eq_true] at hk;exact .cons (h.kept hk.1) (tl.kept hk.2)
theorem has_some{t:T AObj}{b:Nat}(h:has t b=true):∃ o,t.get b=some o:=by
 unfold has at h;split at h
 ·next o e=>exact⟨o,e⟩
 ·cases h
def okLay(t:T AObj)(n:Nat)(y:Lay):Bool:=okF t n y.fr&&y.cs.all (okF t n)
theorem label_has{t:T AObj}{n:Nat}{k:FK}{v:Value}{l:Nat}(h:labelOf k (some v)=some l)(hk:okV t n v=true):has t l=true:=by
 cases n with
 |zero=>cases hk
 |succ n=>
  unfold labelOf at h;split at h
  ·next e=>cases h;cases e;simpa[okV] using hk
  ·next e=>
   cases e;split at h
   ·cases h;simpa[okV] using hk
   ·cases h
  ·cases h
theorem zea.kept{f:Inj}{t:T AObj}{n:Nat}{h h':AHeap}(ht:h'.objs=t)(hsub:∀ b o,t.get b=some o→h.objs.get b=some o){bot0:List Frame}{Bd:Nat}{lay:List Lay}{bot:List Frame}(hl:zea f h bot0 Bd lay bot)(hk:lay.all (okLay t n)=true):zea (kept f t) h' bot0 Bd lay bot:=by
 induction hl with
 |nil=>exact .nil
 |cons hB hret h1 hreg hsz htx hpd hdst hdiff hki hd hro hcs tl ih=>
  simp only[List.all_cons,Bool.and_eq_true,okLay,okF] at hk;obtain⟨⟨⟨⟨⟨k1,k2⟩,k3⟩,k4⟩,k5⟩,k6⟩:=hk;refine .cons hB hret h1 hreg hsz (fun i hi=>(htx i hi).keptD k1) (fun q hq hn o d e1 e2 e3 k l e4=>?_) hdst hdiff (hki.kept k2) (hd.kept k3) ?_ (hcs.kept (by simpa[okF] using k5)) (ih (by simpa[okLay,okF] using k6))
  ·obtain⟨p1,p2,p3,p4⟩:=hpd q hq hn o d e1 e2 e3 k l e4;refine⟨?_,?_,p3,p4⟩
   ·unfold Cx.kept;split
    ·exact p1
    ·rfl
   ·rename_i y _ _ _ _ _ _ _ _ _ _ _ _;cases ev:y.fr.tmps.get d with
    |none=>rw[ev] at e4;simp[labelOf] at e4
    |some v=>rw[ev] at e4;obtain⟨o',eo⟩:=has_some (label_has e4 (zub k1 ev));obtain⟨c,x,p2⟩:=p2;rw[hsub _ _ eo] at p2;cases p2;exact⟨c,x,by rw[ht];exact eo⟩
  ·rename_i y _ _ _ _ _ _ _ _ round _ _ _;generalize y.fr.round=ro at hro k4 ⊢;cases hro with
   |none=>exact .none
   |some hl=>exact .some (zbb hl k4)
def pickT(t:T AObj):List Nat→T AObj→T AObj
 | [],r=>r
 |b::bs,r=>match t.get b with
  |some o=>pickT t bs (r.set b o)
  |none=>pickT t bs r
theorem pickT_get(t:T AObj):∀(l:List Nat) (r:T AObj),(∀ b o,r.get b=some o→t.get b=some o)→∀ b o,(pickT t l r).get b=some o→t.get b=some o
 | [],r,h,b,o,e=>h b o e
 |x::l,r,h,b,o,e=>by
  unfold pickT at e;split at e
  ·next o' e'=>
   refine pickT_get t l _ (fun b o e2=>?_) b o e;by_cases hb:b=x
   ·subst hb;rw[T.get_set_same] at e2;cases e2;exact e'
   ·rw[T.get_set_ne _ _ hb] at e2;exact h b o e2
  ·exact pickT_get t l r h b o e
def gcA(l:List Nat)(n:Nat)(x:L):Option L:=
 match x.reg with
 |none=>
  let t:=pickT x.s.h.objs l .e
  match okF t n x.s.fr&&x.s.cs.all (okF t n)&&allT (okO t n) t&&x.lay.all (okLay t n) with
  |true=>some ⟨{x.s with h:={x.s.h with objs:=t}},none,x.lay⟩
  |false=>none
 |_=>none
theorem ORel.kept{f:Inj}{t:T AObj}{n:Nat}{K:Loc→Prop}{x:Base}{o:AObj}{w:World}(h:ORel f K x o w)(hk:okO t n o=true):ORel (kept f t) K x o w:=by
 match o,h with
 |.cells c u r ba m,⟨a1,rc,e,a2,a3,a4,a5⟩=>simp only[okO,Bool.and_eq_true] at hk;refine⟨a1,rc,e,a2,a3,a4,fun i v hi=>?_⟩;obtain⟨k1,v',k2,k3⟩:=a5 i v hi;have:=List.all_eq_true.1 hk.1.1 _ (List.mem_of_getElem? hi);exact⟨k1,v',k2,k3.kept this⟩
 |.map es,⟨a1,a2,es',clock,a3,a4⟩=>
  refine⟨a1,a2,es',clock,a3,?_⟩;have key:∀{l:List (Value×Value)} {l':List MapEntry},MRel f l l'→(l.all fun e=>okV t n e.1&&okV t n e.2)=true→MRel (Cx.kept f t) l l':=by
   intro l l' hm
   induction hm with
   |nil=>exact fun _=>.nil
   |cons hk hv _ ih=>intro ha;simp only[List.all_cons,Bool.and_eq_true] at ha;exact .cons (hk.kept ha.1.1) (hv.kept ha.1.2) (ih ha.2)
  exact key a4 hk
 |.loop l,⟨a1,a2,l',a3,a4⟩=>simp only[okO,Bool.and_eq_true] at hk;obtain⟨y,e1,e2⟩:=a4.defers;exact⟨a1,a2,l',a3,a4.state,a4.pending,a4.fn,a4.size,a4.tmps.kept hk.1,a4.params,a4.assign,a4.body,y,zbb e1 hk.2,e2⟩
 |.deferred none,⟨a1,a2,a3⟩=>exact⟨a1,a2,a3⟩
 |.deferred (some ds),⟨a1,a2,ds',a3,a4⟩=>exact⟨a1,a2,ds',a3,a4.kept hk⟩
theorem gc_sound{l:List Nat}{n:Nat}{x x':L}(h:gcA l n x=some x'){f:Inj}{M Sh:Loc→Prop}{bot:List Frame}{g:Goroutine}{w:World}(hr:XRel f M Sh bot x g w):∃ f',f'.le f∧XRel f' M Sh bot x' g w:=by
 obtain⟨s,reg,lay⟩:=x;unfold gcA at h;split at h
 ·next e1=>
  simp only at e1;subst e1;simp only[] at h;split at h
  ·next hk=>
   cases h;simp only[Bool.and_eq_true] at hk;obtain⟨⟨⟨k1,k2⟩,k3⟩,k9⟩:=hk;generalize ht:pickT s.h.objs l .e=t at k1 k2 k3 k9 ⊢;have sub:∀ b o,t.get b=some o→s.h.objs.get b=some o:=by rw[←ht];exact pickT_get _ l .e (fun b o e=>by rw[T.get_e] at e;cases e)
   cases hr with
   |plain hs hB hlays=>
   obtain⟨fr,cs,rfl,hfr,hcs⟩:=hs.fr;have hh:=hs.heap;have mem:∀ r m,m∈members t r→m∈members s.h.objs r:=by
    intro r m hm;unfold members at hm ⊢;split at hm
    ·next e=>rw[sub _ _ e];exact hm
    ·cases hm
   refine⟨Cx.kept f t,zrb f t,.plain (s:={s with h:={s.h with objs:=t}}) ⟨⟨fr,cs,rfl,hfr.kept k1,hcs.kept k2⟩,⟨fun b o e=>hh.wf.lt b o (sub b o e),fun b c u r ba m e=>?_,fun r m hm=>?_⟩,fun b x hx=>?_,fun b x hx ho=>hh.mine b x (zrb f t b x hx) ho,fun b x i hx hi=>hh.part b x i (zrb f t b x hx) hi,
    fun b b' x x' o o' h1 h2 h3 h4=>hh.apart b b' x x' o o' (zrb f t b x h1) (zrb f t b' x' h2) (sub _ _ h3) (sub _ _ h4),fun b b' x x' o o' h1 h2 h3 h4=>hh.coord b b' x x' o o' (zrb f t b x h1) (zrb f t b' x' h2) (sub _ _ h3) (sub _ _ h4),fun b x hx=>hh.home b x (zrb f t b x hx)⟩ hB (zea.kept (t:=t) (h:=s.h) (h':={s.h with objs:=t}) rfl sub hlays k9)⟩
   ·obtain⟨g1,g2,c',u',m',g3⟩:=hh.wf.mem b c u r ba m (sub _ _ e);have ho:=zub k3 e;simp only[okO,Bool.and_eq_true] at ho;obtain⟨o,eo⟩:=has_some ho.1.2;have:=sub _ _ eo;rw[g3] at this;cases this;refine⟨?_,g2,c',u',m',eo⟩;unfold members at g1 ⊢;rw[g3] at g1;rw[eo];exact g1
   ·obtain⟨c,u,ba,mm,g1⟩:=hh.wf.kin r m (mem r m hm);have hm':=hm;unfold members at hm';split at hm'
    ·next c2 u2 r2 b2 mem2 e=>have ho:=zub k3 e;simp only[okO,Bool.and_eq_true] at ho;obtain⟨o,eo⟩:=has_some (List.all_eq_true.1 ho.2 m hm');have:=sub _ _ eo;rw[g1] at this;cases this;exact⟨c,u,ba,mm,eo⟩
    ·cases hm'
   ·have hb:has t b=true:=by
     unfold Cx.kept at hx;split at hx
     ·next e=>exact e
     ·cases hx
    obtain⟨o,eo⟩:=has_some hb;obtain⟨o',g1,g2⟩:=hh.obj b x (zrb f t b x hx);rw[sub _ _ eo] at g1;cases g1;exact⟨o,eo,g2.kept (zub k3 eo)⟩
  ·cases h
 ·cases h
inductive zy(p:Tab)(pl:T (T (List Phase))):Nat→L→L→Prop where
 |refl (x:L):zy p pl 0 x x
 |run {n m:Nat} {x y z:L} (h:runL p pl n x=.next y) (t:zy p pl m y z):zy p pl (costL p pl n x+m) x z
 |gc {l:List Nat} {n m:Nat} {x y z:L} (h:gcA l n x=some y) (t:zy p pl m y z):zy p pl m x z
theorem reaches_sound{p:Tab}{pl:T (T (List Phase))}(hp:TabOk p)(hmix:p.prog.follows .mixedOrders=true){L0:World→Prop}{main:Bool}{bot:List Frame}{Sh:Loc→Prop}{m:Nat}{x y:L}(h:zy p pl m x y) :
  ∀{f:Inj} {M:Loc→Prop} {g:Goroutine} {w:World},XRel f M Sh bot x g w→GoesX p.prog main Sh L0 (fun Mi g w=>∃ f',XRel f' Mi Sh bot y g w) m M g w:=by
 induction h with
 |refl x=>exact fun hr=>.here fun w1 h1=>⟨_,hr.env h1.1⟩
 |run h t ih=>intro f M g w hr;refine GoesX.bind ?_ (runL_sound (L0:=L0) hp hmix _ h hr);intro Mi2 g2 w2 hq;obtain⟨f2,_,hx⟩:=hq w2 (.refl _ _ _);exact ih hx
 |gc h t ih=>intro f M g w hr;obtain⟨f',_,hx⟩:=gc_sound h hr;exact ih hx
end
section
open Go.Conc Go.ConcN Go.Conc.Lib Go.ConcR.Gen Go.ConcN.Gen
open Go.ConcR (KK wgBlock WgAt stA smA rd wr mk Payload DC0)
section
variable {f:Inj}{M Sh:Loc→Prop}{w:World}{h h1:AHeap}{bB bW bR n m nr:Nat}{xB xW xR:Base}
theorem HRel.move2(hr:HRel f (fun l=>M l∨Sh l) M h w)(hb:zda h bB n=true)(hB:f bB=some xB)(hbw:zda h bW m=true)(hW:f bW=some xW)(hbr:zda h bR nr=true)(hR:f bR=some xR){M1 S1:Loc→Prop}(ho:h1.objs=h.objs)(hn:h1.next=h.next)
  (hK:∀ l,M l∨Sh l→(∃ b i,l=cellAt b i∨l=.obj b)→(∀ i,l≠cellAt xB.blk i)→(∀ i,l≠cellAt xW.blk i)→(∀ i,l≠cellAt xR.blk i)→M1 l∨S1 l) (hm:∀ b x,f b=some x→h1.owns b=true→∀ l,locBlk l=some x.blk→M1 l)
  (hp:∀ b x i,f b=some x→inList b i 1 h1.wl=true→M1 (cellAt x.blk (x.off+i))):HRel f (fun l=>M1 l∨S1 l) M1 h1 w:=by
 refine⟨⟨fun b o e=>by rw[hn];exact hr.wf.lt b o (ho▸e),fun b c x r ba m e=>by rw[ho] at e ⊢;exact hr.wf.mem b c x r ba m e,fun r m e=>by rw[ho] at e ⊢;exact hr.wf.kin r m e⟩,fun b x hx=>?_,hm,hp,
  fun b b' x x' o o' h1 h2 h3 h4=>hr.apart b b' x x' o o' h1 h2 (ho▸h3) (ho▸h4),fun b b' x x' o o' h1 h2 h3 h4=>hr.coord b b' x x' o o' h1 h2 (ho▸h3) (ho▸h4),fun b x hx=>hK _ (hr.home b x hx) ⟨_,0,.inr rfl⟩ (fun i=>by simp) (fun i=>by simp) (fun i=>by simp)⟩
 obtain⟨o,e1,e2⟩:=hr.obj b x hx;refine⟨o,by rw[ho];exact e1,?_⟩
 match o,e2 with
 |.cells c u r ba m,⟨a1,rc,e,a2,a3,a4,a5⟩=>
  refine⟨a1,rc,e,a2,a3,a4,fun i v hi=>?_⟩;obtain⟨k1,k2⟩:=a5 i v hi;refine⟨hK _ k1 ⟨_,_,.inl rfl⟩ (fun j hj=>?_) (fun j hj=>?_) (fun j hj=>?_),k2⟩
  ·simp only[cellAt,Loc.cell.injEq,Addr.mk.injEq] at hj;obtain rfl:=hr.only hb hB hx hj.1;obtain⟨c',u',e',hn',_⟩:=zZ hb;rw[e1] at e';cases e';exact zDa hn' i v hi
  ·simp only[cellAt,Loc.cell.injEq,Addr.mk.injEq] at hj;obtain rfl:=hr.only hbw hW hx hj.1;obtain⟨c',u',e',hn',_⟩:=zZ hbw;rw[e1] at e';cases e';exact zDa hn' i v hi
  ·simp only[cellAt,Loc.cell.injEq,Addr.mk.injEq] at hj;obtain rfl:=hr.only hbr hR hx hj.1;obtain⟨c',u',e',hn',_⟩:=zZ hbr;rw[e1] at e';cases e';exact zDa hn' i v hi
 |.map es,⟨a1,a2,a3⟩=>exact⟨a1,hK _ a2 ⟨_,0,.inr rfl⟩ (fun i=>by simp) (fun i=>by simp) (fun i=>by simp),a3⟩
 |.loop l,⟨a1,a2,a3⟩=>exact⟨a1,hK _ a2 ⟨_,0,.inr rfl⟩ (fun i=>by simp) (fun i=>by simp) (fun i=>by simp),a3⟩
 |.deferred none,⟨a1,a2,a3⟩=>exact⟨a1,hK _ a2 ⟨_,0,.inr rfl⟩ (fun i=>by simp) (fun i=>by simp) (fun i=>by simp),a3⟩
 |.deferred (some ds),⟨a1,a2,a3⟩=>exact⟨a1,hK _ a2 ⟨_,0,.inr rfl⟩ (fun i=>by simp) (fun i=>by simp) (fun i=>by simp),a3⟩
end
theorem stepL_done{p:Tab}{pl:T (T (List Phase))}{x:L}{v:Value}{h:AHeap}(e:stepL p pl x=.done v h):x=⟨x.s,none,[]⟩∧step p x.s=.done v h:=by
 unfold stepL at e
 repeat' split at e
 all_goals first|cases e|skip
 ·exfalso;unfold loudD at e;simp only[] at e
  repeat' split at e
  all_goals cases e
 ·rename_i e1 _ _ _ _ e3 e2;obtain⟨s,reg,lay⟩:=x;simp only at *;subst e1;subst e3;exact⟨rfl,e2⟩
section
variable [Payload]
variable {p:Tab}{pl:T (T (List Phase))}{Lk:WgLink}{Wg C nC:Nat}{xB xW:Base}{vals:List (List Value)}{c:Cfg}{hn:c.n<2147483647}{hCW:C≠Wg}{hCB:C≠xB.blk}{w0:World}{hWN:w0.heap.size≤Wg}{hCN:w0.heap.size≤C}{bot:List Frame}
def AtLast(p:Tab)(pl:T (T (List Phase)))(Wg:Nat)(bot:List Frame)(xl:L)(Mi:Loc→Prop)(g:Goroutine)(w:World):Prop:=∃ f,XRel f Mi (fun l=>l=Loc.obj Wg) bot xl g w
theorem endOk(H:WgLib p.prog Lk)(hp:TabOk p)(hmix:p.prog.follows .mixedOrders=true)(hxW:xW.blk=Wg)(hxO:xW.off=0)(hBW:c.bB≠c.bW){y xl:L}{h2:AHeap}
  (hf:fillA c vals y.s.h=some h2) {ml:Nat} (he:zy p pl ml ⟨{y.s with h:=h2},none,[]⟩ xl) :
  EndOk p Lk c Wg C nC xB xW w0 (Crw p Lk c.n Wg C nC xB.blk xB.off vals hn hCW hCB w0 hWN hCN) (fun _ _ g w=>∃ m,GoesX p.prog true (fun l=>l=Loc.obj Wg) (WgLive Lk.tWg Wg) (AtLast p pl Wg bot xl) m (zcc w0 Wg) g w) bot y:=by
 intro f M Sh g w x1 hc hbW hbB hJ hSh;obtain⟨ops,i,o,rest,kk,args',h',fr',tmps,k',defers,cs,args'',g1,f1,f',hb,ha,hf1,hf2,hva,hh,rfl⟩:=hc;have hbW':=hf2 _ _ (hf1 _ _ hbW);have hbB':=hf2 _ _ (hf1 _ _ hbB);have hargs:=args_wg hb.chk hva hbW' hxO;rw[hxW] at hargs;obtain⟨lf1,lf2⟩:=lib_frame ha;have hy:y.s.h=h':=by rw[hb.ey]
 rw[hy] at hf;have hF2:∀ w w',Env (fun l=>M l∨Sh l) w w'→HRel f' (fun l=>M l∨Sh l) M h' w→HRel f' (fun l=>M l∨Sh l) M h' w':=fun w w' he hr=>hr.env he
 rw[hargs,enter_wait H,lf1];refine⟨AnchX Lk (fun w=>HRel f' (fun l=>M l∨Sh l) M h' w) Wg _ _,?_,?_,⟨3,waitStartX H hF2 w ⟨hh,hJ.1⟩⟩⟩
 ·rintro g w ⟨T,rfl,_⟩;rfl
 ·intro g w hA;refine waitRoundX (F2:=fun w=>HRel f' (fun l=>zcc w0 Wg l∨l=.obj Wg) (zcc w0 Wg) h2 w) (mT:=ml) H (fun i h=>h.elim (hJ.2.2.1 i) (hSh.1 i)) hF2 (fun w w' he hr=>hr.env he)
   (fun w hF _ hJn=>join_rel hF hf hbW' hxW hbB' hBW (fun b x hx=>(hF.home b x hx).elim (fun h=>hJ.2.2.2.2.1 _ _ h rfl) (fun h=>hSh.2 _ _ h rfl)) hJn) ?_ g w hA
  intro w hF hl;rw[lf2];have hx:XRel f' (zcc w0 Wg) (fun l=>l=Loc.obj Wg) bot ⟨{y.s with h:=h2},none,[]⟩ (G (realF x1.s.fr (putDst o.dst tmps (.tuple #[])) (.inRegion ops (List.range' (i+1) rest.length)::k') defers none) (cs++bot)) w:=by
   have:y.s={x1.s with fr:=fr',h:=h'}:=by rw[hb.ey]
   rw[this];exact SRel.flat (call_back ha hb.dst hf2 (v':=.tuple #[]) (.tuple .nil) hF)
  exact reaches_sound hp hmix he hx
end
end
section
open Go.Conc Go.ConcN Go.Conc.Lib Go.ConcR.Gen Go.ConcN.Gen
open Go.ConcR (KK wgBlock WgAt stA smA rd wr mk Payload DC0)
def Lone(t:Trace):Prop:=∀ op∈t,op.g=0∧op.act≠.mark .disable∧op.act≠.mark .enable∧∀ a,op.act≠.mark (.release a)
theorem lone_ofEvents{M S:Loc→Prop}(hl:∀ l,M l∨S l→∃ b,locBlk l=some b){es:Array Event}(h:∀ e∈es,EvIn M S e)(fn:FuncId)(pos:String):Lone (MemOp.ofEvents 0 fn pos es):=by
 intro op hop;obtain⟨e,he,rfl⟩:=Go.Conc.mem_ofEvents hop;obtain⟨h1,h2,h3⟩:=zLa hl (h e he);have key:∀ m,MemAct.ofEvent e=.mark m→e.loc=.mark m:=by
  intro m hm;obtain⟨l,wr,sy⟩:=e;cases l with
  |mark m'=>simp[MemAct.ofEvent] at hm;subst hm;rfl
  |obj r=>cases wr<;>cases sy<;>simp[MemAct.ofEvent] at hm
  |_=>simp[MemAct.ofEvent] at hm
 exact⟨rfl,fun hm=>h1 (key _ hm),fun hm=>h2 (key _ hm),fun a hm=>h3 a (key _ hm)⟩
theorem Lone.app{t u:Trace}(h:Lone t)(h':Lone u):Lone (t++u):=fun op hop=>(Array.mem_append.1 hop).elim (h op) (h' op)
section
variable {P:Program}{S:Loc→Prop}{L:World→Prop}{Q:(Loc→Prop)→Goroutine→World→Prop}
theorem goesX_solo(hL:∀ w d,L w→L (w.at d)):∀(n:Nat) (a:Goroutine) (w:World) (sl:Option (Nat×Nat)) (t:Trace) (M:Loc→Prop),Lone t→(∀ l,M l∨S l→∃ b,locBlk l=some b)→GoesX P true S L Q n M a w →
  ∃(N:Nat) (a':Goroutine) (w':World) (sl':Option (Nat×Nat)) (t':Trace) (M':Loc→Prop),runNT P N (crowd #[a] w sl) t=(.next (crowd #[a'] w' sl'),t')∧Q M' a' w'∧Lone t'
 |0,a,w,sl,t,M,ht,hl,hG=>by
  rcases hG.cases with hq|⟨n',e,_⟩
  ·exact⟨0,a,w,sl,t,M,rfl,hq w (.refl _ _ w),ht⟩
  ·omega
 |n+1,a,w,sl,t,M,ht,hl,hG=>by
  rcases hG.cases with hq|⟨n',e,hrun,hstep⟩
  ·exact⟨0,a,w,sl,t,M,rfl,hq w (.refl _ _ w),ht⟩
  obtain rfl:n'=n:=by omega
  have haw:∀ g∈#[a],awake g:=by
   intro g hg;obtain rfl:g=a:=by simpa using hg
   exact awake_of (.inl hrun)
  obtain⟨i,g,d,sl',hi,hg,hst⟩:=crowd_pick (P:=P) (w:=w) (sl:=sl) haw ⟨0,a,rfl,hrun⟩;obtain rfl:i=0:=by have:=(Array.getElem?_eq_some_iff.1 hi).1;simp at this;exact this
  obtain rfl:g=a:=by simpa using hi.symm
  obtain⟨a',w',es,M',hgo,hd,hG'⟩:=hstep (w.at d) ⟨zqc _ w d,hL w d⟩;have hl':∀ l,M' l∨S l→∃ b,locBlk l=some b:=by
   intro l hl2;rcases hl2 with hl2|hl2
   ·rcases(hd.mine l).1 hl2 with hl2|⟨b,hb,_⟩
    ·exact hl l (.inl hl2)
    ·exact⟨b,hb⟩
   ·exact hl l (.inr hl2)
  have hrunT:=runT_crowd_go (P:=P) (sl:=sl') (i:=0) hi (show stepG P (0==0) g (w.at d)=_ from hgo);have e1:((#[g].map (Go.Conc.woken P g a' w')).setIfInBounds 0 a')=#[a']:=by simp
  rw[e1] at hrunT;obtain⟨N,a'',w'',sl'',t',M'',hr,hQ,ht'⟩:=goesX_solo hL n' a' w' sl' _ M' (ht.app (lone_ofEvents hl' hd.evs g.frame.fn g.frame.place)) hl' hG';exact⟨N+1,a'',w'',sl'',t',M'',by simp only[runNT,hst,hrunT];exact hr,hQ,ht'⟩
end
theorem allocA_some{p:Tab}{c:Cfg}{tWg:TypeId}{x y:L}(h:zpc p c tWg x=some y):∃ ops i o rest k z fr,x=⟨x.s,none,[]⟩∧x.s.fr.ret=false∧x.s.fr.round=none∧x.s.fr.todo=.reg ops i (o::rest)::k∧o.op=.alloc tWg ∧
  zX ops x.s.fr o=true∧x.s.h.next=c.bW∧p.zero tWg=some z∧z.cells=#[.int .u64 0,.int .u32 0]∧zta x.s.fr o (.pointer (some ⟨x.s.h.next,0,none⟩)) (.reg ops (Nat.succ i) rest::k)=some fr∧y=⟨{x.s with fr,h:=x.s.h.row z.cells.toList 0},none,[]⟩:=by
 unfold zpc at h;split at h
 ·next ops i o rest k e1 e2 e3=>
  split at h
  ·next t e4=>
   split at h
   ·next z fr e5 e6 e7=>
    split at h
    ·next e8=>cases h;simp only[Bool.and_eq_true] at e5;obtain⟨⟨h1,h2⟩,h3⟩:=e5;obtain rfl:=Nat.eq_of_beq_eq_true h1;obtain⟨a,b,d⟩:=opAt_some e3;refine⟨ops,i,o,rest,k,z,fr,?_,b,e2,d,e4,h2,Nat.eq_of_beq_eq_true h3,e6,Array.toList_inj.1 e8,e7,rfl⟩;obtain⟨s,reg,lay⟩:=x;simp only at a e1;subst a;subst e1;rfl
    ·cases h
   ·cases h
  ·cases h
 ·cases h
section
variable {p:Tab}{pl:T (T (List Phase))}{Lk:WgLink}{c:Cfg}{bot:List Frame}
def I0(Mi:Loc→Prop)(w:World):Prop:=∀ l,Mi l→∃ b,locBlk l=some b∧b<w.heap.size
theorem I0.rely{L:World→Prop}{Mi Sh:Loc→Prop}{w w1:World}(h:I0 Mi w)(hr:Rely L (fun l=>Mi l∨Sh l) w w1):I0 Mi w1:=
 fun l hl=>let⟨b,h1,h3⟩:=h l hl;⟨b,h1,Nat.lt_of_lt_of_le h3 hr.1.size⟩
theorem I0.did{Mi Mi' Sh:Loc→Prop}{w w':World}{es:Array Event}(h:I0 Mi w)(hd:Did Mi Sh w w' es Mi'):I0 Mi' w':=by
 intro l hl;rcases(hd.mine l).1 hl with hl|⟨b,h1,h2,h3⟩
 ·obtain⟨b,h1,h3⟩:=h l hl;exact⟨b,h1,Nat.lt_of_lt_of_le h3 hd.env.size⟩
 ·exact⟨b,h1,h3⟩
def Frm(w0:World)(Mi:Loc→Prop)(w:World):Prop:=(∀ l b,Mi l→locBlk l=some b→w0.heap.size≤b)∧Env (OldL w0) w0 w
theorem Frm.not{w0 w:World}{Mi:Loc→Prop}(h:Frm w0 Mi w){l:Loc}(hl:Mi l):¬ OldL w0 l:=fun⟨b,h1,h2⟩=>absurd h2 (Nat.not_lt.2 (h.1 l b hl h1))
theorem Frm.rely{w0:World}{L:World→Prop}{Mi Sh:Loc→Prop}{w w1:World}(hS:∀ l,OldL w0 l→Sh l)(h:Frm w0 Mi w)(hr:Rely L (fun l=>Mi l∨Sh l) w w1):Frm w0 Mi w1:=
 ⟨h.1,h.2.trans (hr.1.mono fun l hl=>.inr (hS l hl))⟩
theorem Frm.did{w0:World}{Mi Mi' Sh:Loc→Prop}{w w':World}{es:Array Event}(h:Frm w0 Mi w)(hd:Did Mi Sh w w' es Mi'):Frm w0 Mi' w':=by
 refine⟨fun l b hl hb=>?_,h.2.trans (hd.env.mono fun l hl hm=>h.not hm hl)⟩;rcases(hd.mine l).1 hl with hl|⟨b',h1,h2,_⟩
 ·exact h.1 l b hl hb
 ·rw[hb] at h1;cases h1;exact Nat.le_trans h.2.size h2
theorem EvIn.wide{Mi Sh Sh':Loc→Prop}(hs:∀ l,Sh l→Sh' l){e:Event}(h:EvIn Mi Sh e):EvIn Mi Sh' e:=h.imp id fun⟨h1,h2⟩=>⟨h1,h2.imp id fun⟨a,b⟩=>⟨a,hs _ b⟩⟩
theorem Did.wide{Mi Sh Sh' Mi':Loc→Prop}(hs:∀ l,Sh l→Sh' l){w w':World}{es:Array Event}(h:Did Mi Sh w w' es Mi'):Did Mi Sh' w w' es Mi':=⟨h.env,h.mine,fun e he=>(h.evs e he).wide hs⟩
theorem GoesX.wide{P:Program}{main:Bool}{Sh Sh':Loc→Prop}{L:World→Prop}{Q:(Loc→Prop)→Goroutine→World→Prop}(hs:∀ l,Sh l→Sh' l){n:Nat}{Mi:Loc→Prop}{g:Goroutine}{w:World}(h:GoesX P main Sh L Q n Mi g w):GoesX P main Sh' L Q n Mi g w:=by
 have hr:∀{Mi:Loc→Prop} {w w1:World},Rely L (fun l=>Mi l∨Sh' l) w w1→Rely L (fun l=>Mi l∨Sh l) w w1:=fun h=>h.mono fun l hl=>hl.imp id (hs l)
 induction h with
 |here h=>exact .here fun w1 he=>h w1 (hr he)
 |go g' w' es Mi' hrun h k ih=>exact .go g' w' es Mi' hrun (fun w1 he=>⟨(h w1 (hr he)).1,(h w1 (hr he)).2.wide hs⟩) fun w1 he=>ih w1 (hr he)
def AtWg(tWg:TypeId)(c:Cfg)(bot:List Frame)(y0:L)(Mi:Loc→Prop)(g:Goroutine)(w:World):Prop:=
 ∃ f xW,XRel f Mi (fun _=>False) bot y0 g w∧f c.bW=some xW∧xW.off=0∧WgAt tWg xW.blk w 0 0
theorem toWg(hp:TabOk p)(hmix:p.prog.follows .mixedOrders=true){tWg:TypeId}{m:Nat}{x x1 y0:L}{f:Inj}{M:Loc→Prop}{g:Goroutine}{w:World}(h1:zy p pl m x x1)(h2:zpc p c tWg x1=some y0)(hr:XRel f M (fun _=>False) bot x g w) :
  ∃ m,GoesX p.prog true (fun _=>False) (fun _=>True) (AtWg tWg c bot y0) m M g w:=by
 obtain⟨ops,i,o,rest,k,z,fr,a1,a2,a3,a4,a5,a6,a7,a8,a9,a10,rfl⟩:=allocA_some h2;refine⟨m+(0+1),?_⟩;refine GoesX.bind ?_ (reaches_sound (L0:=fun _=>True) hp hmix h1 hr);intro Mi1 g1 w1 hq;obtain⟨f1,hx1⟩:=hq w1 (.refl _ _ _);refine .step hx1.running fun w2 h2=>?_
 have hs1:SRel f1 Mi1 (fun _=>False) bot x1.s g1 w2:=by have:=hx1.env h2.1;rw[a1] at this;exact this.flat
 obtain⟨tmps,k',defers,cs,ha⟩:=hs1.opAt a2 a3 a4;obtain⟨g',k1,k2,k3,k4⟩:=alloc_step (main:=true) (s':=x1.s) hp ha a6 a5 a8 a10 hs1.heap;refine⟨g',_,#[],_,k1,k3,.here fun w3 h3=>⟨_,⟨w2.heap.size,0,0,z.cells.size⟩,(k4.flat).env h3.1,?_,rfl,?_⟩⟩
 ·rw[←a7];exact Inj.put_same _ _ _
 ·refine h3.1.wg (fun i=>.inl (.inr ⟨_,rfl,Nat.le_refl _,Nat.lt_succ_self _⟩)) ?_;show(w2.heap.push _)[w2.heap.size]? = _;rw[Array.getElem?_push_size,a9];rfl
end
end
section
def okMark:Mark→Prop
 |.disable|.enable|.release _=>False
 |_=>True
def okEv(e:Event):Prop:=match e.loc with|.mark m=>okMark m|_=>True
def OkEvs(es:Array Event):Prop:=∀ e∈es,okEv e
theorem OkEvs.push{es:Array Event}(h:OkEvs es){e:Event}(he:okEv e):OkEvs (es.push e):=fun x hx=>(Array.mem_push.1 hx).elim (h x) fun e1=>e1▸he
theorem OkEvs.append{es es':Array Event}(h:OkEvs es)(h':OkEvs es'):OkEvs (es++es'):=fun x hx=>(Array.mem_append.1 hx).elim (h x) (h' x)
theorem zCb{p:Program}{fn:FuncId}{es:Array Event}(h:OkEvs es):OkEvs (seen p fn es):=fun e he=>h e (Go.Conc.mem_seen he)
end
end Go.Cx
