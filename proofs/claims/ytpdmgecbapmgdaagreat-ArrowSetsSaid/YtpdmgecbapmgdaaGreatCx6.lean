/- Ground of proofs about package arrow: it says nothing by itself, without a condition. -/
import Derived.Test.YtpdmgecbapmgdaaGreatCx5
import Derived.Test.YtpdmgecbapmgdaaGreatCx3
set_option linter.unusedSimpArgs false
set_option linter.unusedVariables false
namespace Go.Cx
section
open Go.Conc (G)
variable {p:Tab}{f:Inj}{Mi Sh:Loc→Prop}{bot:List Frame}{main:Bool}{h h':AHeap}{w:World}
theorem wanted_at{ops:Array Oper}{fr:AF}{a:Array Value}(o:Oper)(hl:∀ i,looks ops o i=true→VRel f ((fr.tmps.get i).getD undef) (a.getD i undef)):Region.wanted o (yielded ops a)=zX ops fr o:=by
 unfold Region.wanted zX;cases eg:o.guard with
 |none=>rfl
 |some jw=>
  obtain⟨j,want⟩:=jw;simp only[yielded];cases eq:ops[j]? with
  |none=>simp
  |some q=>
   simp only[Option.bind_some];cases ed:q.dst with
   |none=>simp
   |some d=>
    simp only[Option.bind_some];have hd:=hl d (by unfold looks;rw[eg];simp[eq,ed,Nat.beq_refl]);cases eget:fr.tmps.get d with
    |none=>
     rw[eget] at hd;simp only[Option.getD_none] at hd;cases et:a[d]? with
     |none=>simp
     |some v=>
      have:a.getD d undef=v:=by rw[Array.getD_eq_getD_getElem?,et];rfl
      rw[this] at hd;cases hd;simp
    |some u=>
     rw[eget] at hd;simp only[Option.getD_some] at hd;cases et:a[d]? with
     |none=>
      have:a.getD d undef=undef:=by rw[Array.getD_eq_getD_getElem?,et];rfl
      rw[this] at hd;cases hd;simp
     |some v=>
      have:a.getD d undef=v:=by rw[Array.getD_eq_getD_getElem?,et];rfl
      rw[this] at hd;cases hd<;>simp
theorem evOn_rel{o:Oper}{fr:Frame}{t:T Value}{a:Array Value}(hfr:fr.tmps=a)(hl:∀ i,zhc i o.op.operands.toList=true→VRel f ((t.get i).getD undef) (a.getD i undef)):∀ x v,evOn o t x=some v→VRel f v (fr.eval x):=by
 intro x v e;cases x with
 |tmp i=>
  simp only[evOn] at e;split at e
  ·next hi=>
   simp only[Cx.ev,Option.some.injEq] at e;have:=hl i hi;rw[Frame.eval,hfr];cases et:t.get i with
   |none=>rw[et] at e this;subst e;exact this
   |some u=>rw[et] at e this;subst e;exact this
  ·cases e
 |const v'=>
  simp only[evOn,Cx.ev] at e;cases ec:closed zY v' with
  |false=>rw[ec] at e;cases e
  |true=>rw[ec] at e;cases e;exact zB _ _ ec
 |global g=>cases e
 |func g=>cases e;exact .func rfl .nil .nil
section
variable {fr:AF}{ops:Array Oper}{i:Nat}{o:Oper}{rest:List Nat}{k':List Item}{a:Array Value}{defers:List Deferred}{round:Option Nat}{cs:List Frame}
theorem stepG_wanted(hret:fr.ret=false)(ho:ops[i]? = some o)(hw:Region.wanted o (yielded ops a)=true)(hdef:∀ c,o.op≠.defer c) :
  stepG p.prog main (G (realF fr a (.inRegion ops (i::rest)::k') defers round) cs) w =
   stepG.apply p.prog true (realF fr a (.inRegion ops (i::rest)::k') defers round) cs none (execOp (realF fr a (.inRegion ops (i::rest)::k') defers round).eval o) w:=by
 have hop:(realF fr a (.inRegion ops (i::rest)::k') defers round).oper? = some o:=by simp only[Frame.oper?,realF,ho]
 simp only[G,stepG];have hmode:(realF fr a (.inRegion ops (i::rest)::k') defers round).mode=.run:=by simp[realF,hret]
 rw[hmode];simp only[stepG.exec,realF,ho,Option.map_some,Option.getD_some,hw,if_true,stepG.oper];have hop':=hop;simp only[realF] at hop';rw[hop'];simp only[];split
 ·next e1 e2=>exact absurd e2 (hdef _)
 ·rfl
theorem stepG_unwanted(hret:fr.ret=false)(ho:ops[i]? = some o)(hw:Region.wanted o (yielded ops a)=false) :
  stepG p.prog main (G (realF fr a (.inRegion ops (i::rest)::k') defers round) cs) w=.go (G (realF fr (putDst o.dst a undef) (.inRegion ops rest::k') defers round) cs) w #[]:=by
 have hfin:(realF fr a (.inRegion ops (i::rest)::k') defers round).finish undef=realF fr (putDst o.dst a undef) (.inRegion ops rest::k') defers round:=by simp only[Frame.finish,realF,ho,Option.bind_some];unfold putDst;cases o.dst<;>rfl
 rw[←hfin];simp[G,realF,hret,stepG,stepG.exec,ho,hw]
theorem zTa(ho:ops[i]? = some o)(v:Value):(realF fr a (.inRegion ops (i::rest)::k') defers round).finish v=realF fr (putDst o.dst a v) (.inRegion ops rest::k') defers round:=by simp only[Frame.finish,realF,ho,Option.bind_some];unfold putDst;cases o.dst<;>rfl
end
def TX(ops:Array Oper)(f:Inj)(W:List Nat)(D:Nat→Prop)(t:T Value)(a:Array Value):Prop:=
 ∀ i,(∀ q∈W,¬ D q→dstIs ops q i=false)→VRel f ((t.get i).getD undef) (a.getD i undef)
theorem TX.mono{ops:Array Oper}{f g:Inj}(hfg:f.le g){W:List Nat}{D:Nat→Prop}{t:T Value}{a:Array Value}(h:TX ops f W D t a):TX ops g W D t a:=fun i hi=>(h i hi).mono hfg
theorem TX.ran{ops:Array Oper}{f:Inj}{W:List Nat}{D:Nat→Prop}{t:T Value}{a:Array Value}{nt q:Nat}{o:Oper}(h:TX ops f W D t a)(ho:ops[q]? = some o)(hsz:a.size=nt){v:Value}
  (hv:∀ d,o.dst=some d→d<nt∧VRel f ((t.get d).getD undef) v):TX ops f W (fun j=>D j∨j=q) t (putDst o.dst a v):=by
 intro i hi;by_cases hd:o.dst=some i
 ·obtain⟨h1,h2⟩:=hv i hd;have:(putDst o.dst a v).getD i undef=v:=by rw[hd];simp[putDst,Array.getD,hsz,h1]
  rw[this];exact h2
 ·have e:(putDst o.dst a v).getD i undef=a.getD i undef:=by
   unfold putDst;cases ed:o.dst with
   |none=>rfl
   |some d=>
    rw[ed] at hd;have hne:d≠i:=fun e=>hd (by rw[e])
    simp only[];rw[Array.getD_eq_getD_getElem?,Array.getD_eq_getD_getElem?,Array.getElem?_setIfInBounds_ne hne]
  rw[e];refine h i fun q' hq' hn=>?_
  by_cases hqq:q'=q
  ·subst hqq;cases e':dstIs ops q' i with
   |false=>rfl
   |true=>obtain⟨o',h1,h2⟩:=zUa.1 e';rw[ho] at h1;cases h1;exact absurd h2 hd
  ·exact hi q' hq' (fun h1=>h1.elim hn hqq)
structure Waits(p:Tab)(ops:Array Oper)(f:Inj)(h:AHeap)(Bd:Nat)(fr:AF)(W:List Nat)(D:Nat→Prop):Prop where
 chk:∀ q∈W,¬ D q→∃ o r,ops[q]? = some o∧zWa p ops fr h o=some r∧∀ l,r=some l→f l=none∧Bd≤l
 apart:∀ q q' o o' l l',q∈W→q'∈W→¬ D q→¬ D q'→q≠q'→ops[q]? = some o→ops[q']? = some o'→zWa p ops fr h o=some (some l)→zWa p ops fr h o'=some (some l')→l≠l'
structure Plan(ops:Array Oper)(full:List Phase)(W:List Nat):Prop where
 ok:PlanOk ops full
 quiet:∀ q∈W,q∉louds full
theorem Plan.looks{ops:Array Oper}{full:List Phase}{W:List Nat}(hp:Plan ops full W){D:Nat→Prop}(hc:zwb ops D){i:Nat}{o:Oper}(ho:ops[i]? = some o)(he:∀ e∈o.after,Region.binds .any e=true→D e.on){t:Nat}(hl:looks ops o t=true) :
  ∀ q∈W,¬ D q→dstIs ops q t=false:=by
 intro q hq hn;cases e:dstIs ops q t with
 |false=>rfl
 |true=>
  exfalso;obtain⟨oq,h1,h2⟩:=zUa.1 e;have hi:i<ops.size:=(Array.getElem?_eq_some_iff.1 ho).1;have hqs:q<ops.size:=(Array.getElem?_eq_some_iff.1 h1).1;rcases(pairOk_spec ho h1 h2 (hp.ok.pair i q hi hqs)).1 hl with h3|⟨h3,_⟩
  ·exact hn (hc.head hp.ok.dn ho he q h3)
  ·exact hp.quiet q hq h3
theorem check1_lonely{ops:Array Oper}{fr:AF}{o:Oper}{l:Nat}(h1:zWa p ops fr h o=some (some l)):zKa h.objs l:=by
 unfold zWa at h1;split at h1
 ·split at h1
  ·split at h1<;>cases h1
  ·cases h1
 ·split at h1
  ·split at h1
   ·split at h1
    ·split at h1
     ·next hs=>cases h1;exact⟨_,_,sameRow_spec hs⟩
     ·cases h1
    ·cases h1
   ·cases h1
  ·split at h1
   ·split at h1
    ·split at h1
     ·split at h1
      ·split at h1<;>cases h1
      ·cases h1
     ·cases h1
    ·cases h1
   ·cases h1
section
variable {fr:AF}{ops:Array Oper}{full:List Phase}{W:List Nat}{D:Nat→Prop}{q Bd:Nat}{rest:List Nat}{k':List Item}{a:Array Value}{defers:List Deferred}{round:Option Nat}{cs:List Frame}
structure Ready(p:Tab)(ops:Array Oper)(full:List Phase)(W:List Nat)(f:Inj)(Mi Sh:Loc→Prop)(h:AHeap)(Bd:Nat)(fr:AF)(D:Nat→Prop)(rest:List Nat)(a:Array Value)(w:World):Prop where
 plan:Plan ops full W
 lin:Lin ops D rest
 closed:zwb ops D
 size:a.size=fr.nt
 temps:TX ops f W D fr.tmps a
 waits:Waits p ops f h Bd fr W D
 heap:HRel f (fun l=>Mi l∨Sh l) Mi h w
 dst:∀ q∈W,∀ o d,ops[q]? = some o→o.dst=some d→d<fr.nt
theorem Ready.env{Mi Sh:Loc→Prop}{w':World}(hr:Ready p ops full W f Mi Sh h Bd fr D rest a w)(he:Env (fun l=>Mi l∨Sh l) w w'):Ready p ops full W f Mi Sh h Bd fr D rest a w':=
 {hr with heap:=hr.heap.env he}
theorem ready_step(hp:TabOk p)(hret:fr.ret=false)(hr:Ready p ops full W f Mi Sh h Bd fr D (q::rest) a w)(hq:q∈W) :
  ∃ a' w' es Mi' f',stepG p.prog main (G (realF fr a (.inRegion ops (q::rest)::k') defers round) cs) w=.go (G (realF fr a' (.inRegion ops rest::k') defers round) cs) w' es ∧
   f.le f'∧Did Mi Sh w w' es Mi'∧Ready p ops full W f' Mi' Sh h Bd fr (fun j=>D j∨j=q) rest a' w'∧(∀ l,f l=none→zKa h.objs l→(l<Bd→f' l=none)):=by
 obtain⟨plan,lin,closed,size,temps,waits,heap,dst⟩:=hr;cases lin with
 |cons ho hn he lt=>
 rename_i o;obtain⟨o',r,ho',hchk,hlab⟩:=waits.chk q hq hn;rw[ho] at ho';cases ho';have hlook:∀ i,looks ops o i=true→VRel f ((fr.tmps.get i).getD undef) (a.getD i undef):=fun i hi=>temps i (plan.looks closed ho he hi)
 have hcl:=closed.cons plan.ok.dn ho he
 have left:∀{f':Inj},(∀ l,f l=none→zKa h.objs l→(∀ l',r=some l'→l≠l')→f' l=none)→Waits p ops f' h Bd fr W (fun j=>D j∨j=q):=by intro f' hf';refine⟨fun q' hq' hn'=>?_,fun q1 q2 o1 o2 l1 l2 a1 a2 a3 a4=>waits.apart q1 q2 o1 o2 l1 l2 a1 a2 (fun h=>a3 (.inl h)) (fun h=>a4 (.inl h))⟩;obtain⟨o1,r1,b1,b2,b3⟩:=waits.chk q' hq' (fun h=>hn' (.inl h));refine⟨o1,r1,b1,b2,fun l e=>?_⟩;subst e;obtain⟨c1,c2⟩:=b3 l rfl;refine⟨hf' l c1 (check1_lonely b2) (fun l' e=>?_),c2⟩;subst e;exact waits.apart q' q o1 o l l' hq' hq (fun h=>hn' (.inl h)) hn (fun e=>hn' (.inr e)) b1 ho b2 hchk
 have hdst:∀ d,o.dst=some d→d<fr.nt:=fun d hd=>dst q hq o d ho hd
 unfold zWa at hchk;cases hw:zX ops fr o with
 |false=>
  rw[hw] at hchk;have hw':=(wanted_at o hlook).trans hw;refine⟨putDst o.dst a undef,w,#[],Mi,f,stepG_unwanted hret ho hw',f.le_refl,.quiet,⟨plan,lt,hcl,?_,?_,left (fun l e _ _=>e),heap,dst⟩,fun l e _ _=>e⟩
  ·unfold putDst;cases o.dst<;>simpa using size
  ·refine temps.ran ho size fun d hd=>⟨hdst d hd,?_⟩
   simp only[hd] at hchk;split at hchk
   ·next hu=>
    have:(fr.tmps.get d).getD undef=undef:=by
     rw[Bool.or_eq_true] at hu;rcases hu with hu|hu
     ·exact(eqV_eq hu).symm
     ·split at hu
      ·next aa e1=>
       split at hu
       ·next e2=>rw[e1];simp only[Option.getD_some];rw[Array.toList_eq_nil_iff.1 e2];rfl
       ·cases hu
      ·cases hu
    rw[this];exact .tuple .nil
   ·cases hchk
 |true=>
  rw[hw] at hchk;simp only[] at hchk;have hw':=(wanted_at o hlook).trans hw;have hops:∀ i,zhc i o.op.operands.toList=true→VRel f ((fr.tmps.get i).getD undef) (a.getD i undef):=fun i hi=>hlook i (by unfold looks;rw[hi];rfl)
  have hev:=evOn_rel (o:=o) (fr:=realF fr a (.inRegion ops (q::rest)::k') defers round) (t:=fr.tmps) rfl hops;cases hfo:zHb p (evOn o fr.tmps) o with
  |some x=>
   obtain⟨vs,k⟩:=x;rw[hfo] at hchk;simp only[] at hchk;cases hd:o.dst with
   |none=>rw[hd] at hchk;cases hchk
   |some d=>
    rw[hd] at hchk;simp only[] at hchk;cases hl:labelOf k (fr.tmps.get d) with
    |none=>rw[hl] at hchk;cases hchk
    |some l=>
     rw[hl] at hchk;simp only[] at hchk;split at hchk
     ·next hs=>
      cases hchk;have hobj:=sameRow_spec hs;have hv:=zGa hl;obtain⟨hfl,hBd⟩:=hlab l rfl;obtain⟨rc,el,r1,r2,r3⟩:=fresh_run hp hev hfo w;have hap:=zba (p:=p) (fr:=fr) (k':=k') (tmps:=a) (defers:=defers) (round:=round) (it:=.inRegion ops (q::rest)) (cs:=cs) (fun _ _ _ _ h=>by cases h) r1 (.inl ⟨_,rfl⟩);have hdef:∀ c,o.op≠.defer c:=by intro c hc;unfold zHb at hfo;rw[hc] at hfo;cases hfo
      have hrow:=fill_late heap el 0 hfl hobj r3;refine⟨putDst o.dst a (k.val w.heap.size),zF w (.cells rc el (0,0)),seen p.prog fr.fn #[],(fun l=>Mi l∨NewIn w.heap.size (w.heap.size+1) l),f.put l ⟨w.heap.size,0,0,rc.size⟩,?_,Inj.le_put hfl,?_,⟨plan,lt,hcl,?_,?_,left (fun l' e1 e2 e3=>?_),hrow.grow (fun l h=>?_) fun _ h=>h,dst⟩,fun l' e1 e2 e3=>?_⟩
      ·rw[stepG_wanted hret ho hw' hdef,hap,r2];simp only[outcome,zTa ho];rfl
      ·exact(did_pushed Mi Sh w _).seen p.prog fr.fn
      ·unfold putDst;rw[hd];simpa using size
      ·refine(temps.mono (Inj.le_put hfl)).ran ho size fun d' hd'=>?_
       rw[hd] at hd';cases hd';refine⟨hdst d hd,?_⟩;rw[hv];cases k with
       |ptr=>exact .ptr (Inj.put_same _ _ _)
       |slice n=>exact .slice (Inj.put_same _ _ _) (Nat.le_refl _) (fun _=>rfl) (fun h0=>absurd rfl h0)
      ·rw[Inj.put_ne _ _ (e3 l rfl)];exact e1
      ·rcases h with(h|h)|h
       ·exact .inl (.inl h)
       ·exact .inr h
       ·exact .inl (.inr h)
      ·rw[Inj.put_ne _ _ (by omega)];exact e1
     ·cases hchk
  |none=>
   rw[hfo] at hchk;simp only[] at hchk;cases hst:zxb o with
   |false=>rw[hst] at hchk;cases hchk
   |true=>
    rw[hst] at hchk;simp only[] at hchk;cases hao:aop p h (evOn o fr.tmps) o with
    |none=>rw[hao] at hchk;cases hchk
    |some r0=>
     obtain⟨v,rfl⟩:=still_heap hst hao;rw[hao] at hchk;simp only[] at hchk;obtain⟨r',w',f',Mi',g1,g2,g3,g4,g5,g6⟩:=aop_sound hp heap hev hao;have hdef:∀ c,o.op≠.defer c:=by intro c hc;unfold zxb at hst;rw[hc] at hst;cases hst
     have hrn:r=none:=by
      revert hchk
      split
      ·split
       ·split
        ·intro e;cases e;rfl
        ·intro e;cases e
       ·intro e;cases e
      ·intro e;cases e;rfl
     have key:∃ v',VRel f' v v'∧outcome p.prog (realF fr a (.inRegion ops (q::rest)::k') defers round) cs w' r'=.go (G ((realF fr a (.inRegion ops (q::rest)::k') defers round).finish v') cs) w' #[]∧((∃ v,r'=.value v)∨r'=.skip):=by
      cases g3 with
      |val hv=>exact⟨_,hv,rfl,.inl ⟨_,rfl⟩⟩
      |skip=>exact⟨undef,.tuple .nil,rfl,.inr rfl⟩
     obtain⟨v',hv,hout,hr'⟩:=key;have hap:=zba (p:=p) (fr:=fr) (k':=k') (tmps:=a) (defers:=defers) (round:=round) (it:=.inRegion ops (q::rest)) (cs:=cs) (fun _ _ _ _ h=>by cases h) g1 (by rcases hr' with h|h;exact .inl h;exact .inr (.inl h));refine⟨putDst o.dst a v',w',_,Mi',f',?_,g2,g4.seen p.prog fr.fn,⟨plan,lt,hcl,?_,?_,left (fun l e1 e2 _=>(g6.none l e1 e2).1),g5,dst⟩,fun l e1 e2 _=>(g6.none l e1 e2).1⟩
     ·rw[stepG_wanted hret ho hw' hdef,hap,hout,zTa ho];simp only[GStep.after,Array.append_empty]
     ·unfold putDst;cases o.dst<;>simpa using size
     ·refine(temps.mono g2).ran ho size fun d hd=>⟨hdst d hd,?_⟩
      rw[hd] at hchk;simp only[] at hchk;cases hg:fr.tmps.get d with
      |none=>rw[hg] at hchk;cases hchk
      |some u=>
       rw[hg] at hchk;simp only[] at hchk;split at hchk
       ·next hu=>rw[←eqV_eq hu];exact hv
       ·cases hchk
end
end
section
open Go.Conc (G)
variable {p:Tab}{f:Inj}{Mi Sh:Loc→Prop}{bot:List Frame}{main:Bool}{h h':AHeap}{w:World}
def zva(o:Oper):Bool:=
 match o.op with
 |.alloc _|.buildSlice ..=>true
 |_=>false
theorem freshOf_kind{e:Ev}{o:Oper}{x:List Value×FK}(h:zHb p e o=some x):zva o=true:=by unfold zHb at h;unfold zva;split<;>first|rfl|(rename_i h1 h2;split at h<;>first|(exact absurd (by assumption) (h1 _))|(exact absurd (by assumption) (h2 _ _ _))|cases h)
theorem fresh_not_still{o:Oper}(h:zva o=true):zxb o=false:=by unfold zva at h;unfold zxb;split at h<;>first|(cases h;done)|simp_all
def Pend(f:Inj)(h:AHeap)(Bd Bd':Nat)(ops:Array Oper)(qd:List Nat)(D:Nat→Prop)(t:T Value):Prop:=
 ∀ q∈qd,¬ D q→∀ o d,ops[q]? = some o→zva o=true→o.dst=some d→∀ k l,labelOf k (t.get d)=some l→f l=none∧zKa h.objs l∧Bd≤l∧l<Bd'
theorem Pend.old{f':Inj}{Bd Bd':Nat}{ops:Array Oper}{qd:List Nat}{D:Nat→Prop}{t:T Value}(hp:Pend f h Bd Bd' ops qd D t)(ho:∀ l,f l=none→zKa h.objs l→l<Bd'→f' l=none∧zKa h'.objs l):Pend f' h' Bd Bd' ops qd D t:=by intro q hq hn o d h1 h2 h3 k l h4;obtain⟨a,b,c,e⟩:=hp q hq hn o d h1 h2 h3 k l h4;obtain⟨a',b'⟩:=ho l a b e;exact⟨a',b',c,e⟩
theorem Old.lonely{f':Inj}(ho:Old f h f' h'){l:Nat}(h1:f l=Option.none)(h2:zKa h.objs l):f' l=Option.none∧zKa h'.objs l:=by obtain⟨a,b⟩:=ho.none l h1 h2;obtain⟨c,x,e⟩:=h2;exact⟨a,c,x,by rw[b];exact e⟩
theorem labelOf_undef{k:FK}{l:Nat}:labelOf k (some undef)≠some l:=by intro e;have:=zGa e;cases k<;>simp[FK.val,undef] at this
structure Reckoned(ops:Array Oper)(f:Inj)(nt:Nat)(is:List Nat)(t:T Value)(h:AHeap)(t1:T Value)(h1:AHeap):Prop where
 keeps:∀ i,(∀ q∈is,dstIs ops q i=false)→t1.get i=t.get i
 heap:∀ K Mi w,HRel f K Mi h w→HRel f K Mi h1 w
 old:∀ K Mi w,HRel f K Mi h w→Old f h f h1
 next:h.next≤h1.next
 dst:∀ q∈is,∀ o d,ops[q]? = some o→o.dst=some d→d<nt
 label:∀ q∈is,∀ o d,ops[q]? = some o→zva o=true→o.dst=some d→(∀ j∈is,j≠q→dstIs ops j d=false)→∀ k l,labelOf k (t1.get d)=some l→h.next≤l
theorem quiet1_spec{ops:Array Oper}{fr:AF}{o:Oper}{v:Value}(hq:quiet1 p ops fr h o=some (v,h')) :
  (h'=h∨∃ vs,h'=h.row vs 0)∧(zva o=true→∀ k l,labelOf k (some v)=some l→h.next≤l):=by
 unfold quiet1 at hq;split at hq
 ·cases hq;exact⟨.inl rfl,fun _ k l e=>absurd e labelOf_undef⟩
 ·split at hq
  ·next vs k e=>cases hq;refine⟨.inr ⟨_,rfl⟩,fun _ k' l e'=>?_⟩;have:=zGa e';cases k<;>cases k'<;>simp[FK.val] at this<;>omega
  ·split at hq
   ·next hs=>
    split at hq
    ·cases hq;refine⟨.inl rfl,fun hk=>?_⟩;rw[fresh_not_still hk] at hs;cases hs
    ·cases hq
   ·cases hq
theorem reckon_spec{ops:Array Oper}{fr:AF}:∀{is:List Nat} {t t1:T Value} {h h1:AHeap},reckon p ops fr is t h=some (t1,h1)→Reckoned ops f fr.nt is t h t1 h1
 | [],t,t1,h,h1,e=>by simp only[reckon,Option.some.injEq,Prod.mk.injEq] at e;obtain⟨rfl,rfl⟩:=e;exact⟨fun _ _=>rfl,fun _ _ _ hr=>hr,fun _ _ _ _=>.refl _ _,Nat.le_refl _,fun _ h=>absurd h (by simp),fun _ h=>absurd h (by simp)⟩
 |i::is,t,t1,h,h1,e=>by
  simp only[reckon] at e;cases eo:ops[i]? with
  |none=>rw[eo] at e;cases e
  |some o=>
   rw[eo] at e;simp only[] at e;cases eq:quiet1 p ops {fr with tmps:=t} h o with
   |none=>rw[eq] at e;cases e
   |some x=>
    obtain⟨v,h2⟩:=x;rw[eq] at e;simp only[] at e;cases ep:putT fr.nt t o.dst v with
    |none=>rw[ep] at e;cases e
    |some t2=>
     rw[ep] at e;simp only[] at e;obtain⟨r1,r2,r3,r4,r5,r6⟩:=reckon_spec e;obtain⟨q1,q2⟩:=quiet1_spec eq;have hput:(o.dst=none∧t2=t)∨∃ d,o.dst=some d∧d<fr.nt∧t2=t.set d v:=by
      unfold putT at ep;split at ep
      ·cases ep;exact .inl ⟨by assumption,rfl⟩
      ·next d hd=>
       split at ep
       ·next hb=>cases ep;exact .inr ⟨d,hd,Nat.lt_of_succ_le (by simpa[Nat.blt] using hb),rfl⟩
       ·cases ep
     have hn:h.next≤h2.next:=by
      rcases q1 with rfl|⟨vs,rfl⟩
      ·exact Nat.le_refl _
      ·exact Nat.le_succ _
     have hheap:∀ K Mi w,HRel f K Mi h w→HRel f K Mi h2 w:=fun K Mi w hr=>by
      rcases q1 with rfl|⟨vs,rfl⟩
      ·exact hr
      ·exact hr.spare vs 0
     have hold:∀ K Mi w,HRel f K Mi h w→Old f h f h2:=fun K Mi w hr=>by
      rcases q1 with rfl|⟨vs,rfl⟩
      ·exact .refl _ _
      ·exact .spare hr vs 0
     refine⟨fun j hj=>?_,fun K Mi w hr=>r2 K Mi w (hheap K Mi w hr),fun K Mi w hr=>(hold K Mi w hr).trans (r3 K Mi w (hheap K Mi w hr)),Nat.le_trans hn r4,fun q hq o' d ho' hd'=>?_,fun q hq o' d ho' hk hd' hj k l hl=>?_⟩
     ·rw[r1 j fun q hq=>hj q (List.mem_cons_of_mem _ hq)];rcases hput with⟨_,rfl⟩|⟨d,hd,_,rfl⟩
      ·rfl
      ·refine T.get_set_ne _ _ fun e=>?_
       have:=hj i List.mem_cons_self;rw[zUa.2 ⟨o,eo,by rw[hd,e]⟩] at this;cases this
     ·rcases List.mem_cons.1 hq with rfl|hq
      ·rw[eo] at ho';cases ho';rcases hput with⟨hd,_⟩|⟨d',hd,hlt,_⟩
       ·rw[hd] at hd';cases hd'
       ·rw[hd] at hd';cases hd';exact hlt
      ·exact r5 q hq o' d ho' hd'
     ·by_cases hin:q∈is
      ·exact Nat.le_trans hn (r6 q hin o' d ho' hk hd' (fun j hj'=>hj j (List.mem_cons_of_mem _ hj')) k l hl)
      ·rcases List.mem_cons.1 hq with rfl|hq
       ·rw[eo] at ho';cases ho';rcases hput with⟨hd,_⟩|⟨d',hd,hlt,rfl⟩
        ·rw[hd] at hd';cases hd'
        ·rw[hd] at hd';cases hd';rw[r1 d fun j hj'=>hj j (List.mem_cons_of_mem _ hj') (fun e=>hin (e▸hj')),T.get_set_same] at hl;exact q2 hk k l hl
       ·exact absurd hq hin
theorem checkAll_spec{ops:Array Oper}{fr:AF}:∀{is ls:List Nat},checkAll p ops fr h is ls=true →
  (∀ i∈is,∃ o r,ops[i]? = some o∧zWa p ops fr h o=some r∧∀ l,r=some l→l∉ls) ∧
  (∀ i∈is,∀ j∈is,i≠j→∀ oi oj li lj,ops[i]? = some oi→ops[j]? = some oj→zWa p ops fr h oi=some (some li)→zWa p ops fr h oj=some (some lj)→li≠lj)
 | [],ls,_=>⟨fun _ h=>absurd h (by simp),fun _ h=>absurd h (by simp)⟩
 |i::is,ls,e=>by
  simp only[checkAll] at e;cases eo:ops[i]? with
  |none=>rw[eo] at e;cases e
  |some o=>
   rw[eo] at e;simp only[] at e;cases ec:zWa p ops fr h o with
   |none=>rw[ec] at e;cases e
   |some r=>
    rw[ec] at e;have key:∃ ls',checkAll p ops fr h is ls'=true∧(∀ l,r=some l→l∉ls∧l∈ls')∧∀ l∈ls,l∈ls':=by
     cases r with
     |none=>exact⟨ls,e,fun l h=>(by cases h),fun l h=>h⟩
     |some l=>simp only[Bool.and_eq_true,Bool.not_eq_true'] at e;exact⟨l::ls,e.2,fun l' h=>(by cases h;exact⟨inL_false.1 e.1,List.mem_cons_self⟩),fun l' h=>List.mem_cons_of_mem _ h⟩
    obtain⟨ls',k1,k2,k3⟩:=key;obtain⟨s1,s2⟩:=checkAll_spec k1;have one:∀ j∈is,∀ oj lj l,ops[j]? = some oj→zWa p ops fr h oj=some (some lj)→r=some l→l≠lj:=by intro j hj oj lj l h1 h2 h3 he;obtain⟨o',r',a,b,c⟩:=s1 j hj;rw[h1] at a;cases a;rw[h2] at b;cases b;exact c lj rfl (he▸(k2 l h3).2)
    refine⟨fun j hj=>?_,fun a ha b hb hne oa ob la lb h1 h2 h3 h4=>?_⟩
    ·rcases List.mem_cons.1 hj with rfl|hj
     ·exact⟨o,r,eo,ec,fun l h=>(k2 l h).1⟩
     ·obtain⟨o',r',a,b,c⟩:=s1 j hj;exact⟨o',r',a,b,fun l h hm=>c l h (k3 l hm)⟩
    ·by_cases hai:a=i<;>by_cases hbi:b=i
     ·exact absurd (hai.trans hbi.symm) hne
     ·have hb2:b∈is:=(List.mem_cons.1 hb).resolve_left hbi;subst hai;rw[eo] at h1;cases h1;rw[ec] at h3;cases h3;exact one b hb2 ob lb la h2 h4 rfl
     ·have ha2:a∈is:=(List.mem_cons.1 ha).resolve_left hai;subst hbi;rw[eo] at h2;cases h2;rw[ec] at h4;cases h4;exact(one a ha2 oa la lb h1 h3 rfl).symm
     ·exact s2 a ((List.mem_cons.1 ha).resolve_left hai) b ((List.mem_cons.1 hb).resolve_left hbi) hne oa ob la lb h1 h2 h3 h4
theorem check1_label{ops:Array Oper}{fr:AF}{o:Oper}{r:Option Nat}{d:Nat}{k:FK}{l:Nat}(hc:zWa p ops fr h o=some r)(hk:zva o=true)(hd:o.dst=some d)(hl:labelOf k (fr.tmps.get d)=some l):r=some l:=by
 have hv:=zGa hl;unfold zWa at hc;rw[hd] at hc;split at hc
 ·simp only[] at hc;exfalso;rw[hv] at hc;cases k<;>simp[FK.val,eqV,undef] at hc
 ·split at hc
  ·next vs k' e=>
   simp only[] at hc;split at hc
   ·next l' e'=>
    split at hc
    ·cases hc;have:=zGa e';rw[hv] at this;cases k<;>cases k'<;>simp[FK.val] at this<;>first|(rw[this];done)|(obtain⟨h1,_⟩:=this;rw[h1])
    ·cases hc
   ·cases hc
  ·rw[fresh_not_still hk] at hc;cases hc
def quiets:List Phase→List Nat
 | []=>[]
 |ph::phs=>ph.quiet++quiets phs
structure RegAt(ops:Array Oper)(full phs:List Phase)(qd:List Nat)(prev:Option Nat)(D:Nat→Prop)(rest:List Nat):Prop where
 plan:PlanOk ops full
 quiet:∀ q∈quiets phs++qd,q∉louds full
 lin:Lin ops D rest
 closed:zwb ops D
 nd:(opsOf phs).Nodup
 lt:∀ i∈opsOf phs,i<ops.size
 fut:∀ i∈opsOf phs,¬ D i
 cov:∀ i,i<ops.size→D i∨i∈qd∨i∈opsOf phs
 prevD:∀ i,prev=some i→D i
 qlt:∀ i∈qd,i<ops.size
 apartq:∀ i∈qd,i∉opsOf phs
 ok:phasesOk (befs ops.toList 0 .e) qd prev phs=true
theorem phase_ready{ops:Array Oper}{full phs:List Phase}{ph:Phase}{qd:List Nat}{prev:Option Nat}{D:Nat→Prop}{rest:List Nat}{fr:AF}{a:Array Value}{t1:T Value}{h1:AHeap}{Bd Bd':Nat}
  (hg:RegAt ops full (ph::phs) qd prev D rest) (hsz:a.size=fr.nt) (ht:TX ops f qd D fr.tmps a) (hpd:Pend f h Bd Bd' ops qd D fr.tmps) (hdst:∀ q∈qd,∀ o d,ops[q]? = some o→o.dst=some d→d<fr.nt) (hr:HRel f (fun l=>Mi l∨Sh l) Mi h w) (hBd:Bd≤h.next) (he:phaseA p ops fr ph h=some (t1,h1)) :
  Ready p ops full (ph.quiet++qd) f Mi Sh h1 Bd {fr with tmps:=t1} D rest a w∧Old f h f h1:=by
 unfold phaseA at he;cases er:reckon p ops fr ph.quiet fr.tmps h with
 |none=>rw[er] at he;cases he
 |some x=>
  obtain⟨t2,h2⟩:=x;rw[er] at he;simp only[] at he;split at he
  ·next hca=>
   cases he;obtain⟨r1,r2,r3,r4,r5,r6⟩:=reckon_spec (f:=f) er;obtain⟨c1,c2⟩:=checkAll_spec hca;have hqin:∀ q∈ph.quiet,q∈opsOf (ph::phs):=fun q hq=>by simp only[opsOf,List.mem_append];exact .inl (.inl hq)
   have hqlt:∀ q∈ph.quiet,q<ops.size:=fun q hq=>hg.lt q (hqin q hq)
   have hok:=hg.ok;simp only[phasesOk,Bool.and_eq_true] at hok;obtain⟨⟨⟨_,hag⟩,_⟩,_⟩:=hok;have again:∀ q∈ph.quiet++qd,¬ D q→q∈ph.again:=by
    intro q hq hn;have:∀{l:List Nat},againOk (befs ops.toList 0 .e) prev ph.again l=true→q∈l→q∈ph.again:=by
     intro l
     induction l with
     |nil=>intro _ h;cases h
     |cons j l ih=>
      intro h1 h2;simp only[againOk,Bool.and_eq_true,Bool.or_eq_true] at h1;rcases List.mem_cons.1 h2 with rfl|h2
      ·rcases h1.1 with h3|h3
       ·cases prev with
        |none=>cases h3
        |some i=>exact absurd (hg.closed i (hg.prevD i rfl) q h3) hn
       ·exact inL_iff.1 h3
      ·exact ih h1.2 h2
    exact this hag hq
   have dif:∀ j q t,j<ops.size→q<ops.size→q≠j→dstIs ops q t=true→dstIs ops j t=false:=by intro j q t hj hq hne hd;obtain⟨oq,e1,e2⟩:=zUa.1 hd;exact(pairOk_spec (Array.getElem?_eq_getElem hj) e1 e2 (hg.plan.pair j q hj hq)).2 hne
   have keepq:∀ q∈qd,∀ o d,ops[q]? = some o→o.dst=some d→t1.get d=fr.tmps.get d:=by
    intro q hq o d ho hd;refine r1 d fun j hj=>?_
    refine dif j q d (hqlt j hj) (hg.qlt q hq) (fun e=>?_) (zUa.2 ⟨o,ho,hd⟩);subst e;exact hg.apartq q hq (hqin q hj)
   refine⟨⟨⟨hg.plan,fun q hq=>hg.quiet q ?_⟩,hg.lin,hg.closed,hsz,fun i hi=>?_,⟨fun q hq hn=>?_,fun q q' o o' l l' a1 a2 a3 a4 a5 a6 a7 a8 a9=>?_⟩,r2 _ _ _ hr,fun q hq o d ho hd=>?_⟩,r3 _ _ _ hr⟩
   ·simp only[quiets,List.mem_append] at hq ⊢;rcases hq with h|h
    ·exact .inl (.inl h)
    ·exact .inr h
   ·have e:t1.get i=fr.tmps.get i:=r1 i fun q hq=>hi q (List.mem_append.2 (.inl hq)) (hg.fut q (hqin q hq))
    show VRel f ((t1.get i).getD undef) _;rw[e];exact ht i fun q hq hn=>hi q (List.mem_append.2 (.inr hq)) hn
   ·obtain⟨o,r,b1,b2,_⟩:=c1 q (again q hq hn);refine⟨o,r,b1,b2,fun l hl=>?_⟩;subst hl
    have hlab:∃ d k,o.dst=some d∧labelOf k (t1.get d)=some l∧zva o=true:=by
     unfold zWa at b2;split at b2
     ·split at b2
      ·split at b2<;>cases b2
      ·cases b2
     ·split at b2
      ·next vs k e=>
       split at b2
       ·next d hd=>
        split at b2
        ·next l' hl'=>
         split at b2
         ·cases b2;exact⟨d,k,hd,hl',freshOf_kind e⟩
         ·cases b2
        ·cases b2
       ·cases b2
      ·split at b2
       ·split at b2
        ·split at b2
         ·split at b2
          ·split at b2<;>cases b2
          ·cases b2
         ·cases b2
        ·cases b2
       ·cases b2
    obtain⟨d,k,hd,hlb,hk⟩:=hlab;rcases List.mem_append.1 hq with hq|hq
    ·have hle:=r6 q hq o d b1 hk hd (fun j hj hne=>dif j q d (hqlt j hj) (hqlt q hq) (fun e=>hne e.symm) (zUa.2 ⟨o,b1,hd⟩)) k l hlb;exact⟨hr.next_none hle,Nat.le_trans hBd hle⟩
    ·rw[keepq q hq o d b1 hd] at hlb;obtain⟨x1,_,x3,_⟩:=hpd q hq hn o d b1 hk hd k l hlb;exact⟨x1,x3⟩
   ·exact c2 q (again q a1 a3) q' (again q' a2 a4) a5 o o' l l' a6 a7 a8 a9
   ·rcases List.mem_append.1 hq with hq|hq
    ·exact r5 q hq o d ho hd
    ·exact hdst q hq o d ho hd
  ·cases he
end
section
open Go.Conc (G)
variable {p:Tab}{f:Inj}{Mi Sh:Loc→Prop}{bot:List Frame}{main:Bool}{h h':AHeap}{w:World}{b:Frame}
theorem popA_done{s:S}{v v':Value}{h':AHeap}(h:popA s v=.done v' h'):s.cs=[]∧v'=v∧h'=s.h:=by
 unfold popA at h;split at h
 ·next e=>cases h;exact⟨e,rfl,rfl⟩
 ·split at h
  ·split at h<;>cases h
  ·split at h<;>cases h
theorem opA_not_done{s:S}{ops:Array Oper}{i:Nat}{o:Oper}{rest:List Oper}{k:List AI}{v:Value}{h':AHeap}:opA p s ops i o rest k≠.done v h':=by
 intro h;unfold opA at h;simp only[] at h
 repeat' split at h
 all_goals cases h
theorem rangeA_not_done{s:S}{g:Operand}{params:Array Tmp}{assign body:Code}{k:List AI}{h1:AHeap}{n:Nat}{mark:List Deferred}{v:Value}{h':AHeap}:zYb p s g params assign body k h1 n mark≠.done v h':=by
 intro h;unfold zYb at h;simp only[] at h
 repeat' split at h
 all_goals cases h
theorem doReturn_below{fr:Frame}{v:Value}(hk:fr.kind=.normal):doReturn p.prog main fr (b::bot) none v w=.go (G (b.finish v) bot) w #[]:=by simp[doReturn,hk,G]
def Back(P:Program)(main:Bool)(f:Inj)(Mi Sh:Loc→Prop)(b:Frame)(bot:List Frame)(h:AHeap)(g:Goroutine)(w:World)(v:Value)(h':AHeap):Prop:=
 ∃ v' w' es Mi' f',stepG P main g w=.go (G (b.finish v') bot) w' es∧f.le f'∧VRel f' v v'∧Did Mi Sh w w' es Mi'∧HRel f' (fun l=>Mi' l∨Sh l) Mi' h' w'∧Old f h f' h'
section
variable {s:S}{tmps:Array Value}{todo:List Item}{defers:List Deferred}{round:Option Nat}{cs:List Frame}
theorem leave_done{jump:Option Code}{v:Value}(hret:s.fr.ret=false)(hdf:s.fr.deferred=false)(hro:RoRel f s.fr.round round)(hcs:FsRel f s.cs cs)(hr:HRel f (fun l=>Mi l∨Sh l) Mi s.h w)(hle:zZb s jump=.done v h')
    (h1:∀ l,round=some l→∀ y w1 es,(Instr.endRound l jump).runT p.prog w #[]=(.ok y w1,es)→stepG p.prog main (G (realF s.fr tmps todo defers round) (cs++b::bot)) w =
       GStep.after (seen p.prog s.fr.fn es) (doReturn p.prog main (realF s.fr tmps todo defers round) (cs++b::bot) none y w1)) :
    Back p.prog main f Mi Sh b bot s.h (G (realF s.fr tmps todo defers round) (cs++b::bot)) w v h':=by
  obtain⟨sfr,scs,sh⟩:=s;simp only[] at *;unfold zZb at hle;cases hro':sfr.round with
  |none=>rw[hro'] at hle;simp only[] at hle;split at hle<;>cases hle
  |some l=>
    rw[hro'] at hro hle;cases hro with
    |some hl=>
      rename_i x;simp only[] at hle;split at hle
      · next r e1 e2=>
        obtain⟨p1,p2,p3⟩:=popA_done hle;simp only[] at p1 p2 p3;subst p1;subst p2;subst p3;cases hcs;obtain⟨l',k1,k2,k3⟩:=setLoop_sound (al':={r with state:=jumpState jump,pending:=jump}) hr hl e1 e2;obtain⟨w',q1,q2,q3,q4⟩:=k3 {l' with state:=if jump.isNone then .ready else .done,pending:=jump} ⟨by cases jump<;>rfl,rfl,k1.fn,k1.size,k1.tmps,k1.params,k1.assign,k1.body,k1.defers⟩;have hv:VRel f (.bool (jumpNone jump)) (.bool jump.isNone):=by cases jump<;>exact .bool _
        refine⟨_,w',_,Mi,f,?_,f.le_refl,hv,q2.seen p.prog sfr.fn,q3,q4⟩;have er:(Instr.endRound x.blk jump).runT p.prog w #[]=(.ok (.bool jump.isNone) w',#[⟨.obj x.blk,false,false⟩,⟨.obj x.blk,true,false⟩]):=by rw[Sem.runT_eq];have a1:=(k2 p.prog).1;have a2:=(k2 p.prog).2;have b1:=(q1 p.prog).1;have b2:=(q1 p.prog).2;simp only[Instr.endRound,Sem.run_bind,Sem.events_bind,a1,a2,Result.andThen_ok,Result.evThen_ok,b1,b2,Sem.run_pure,Sem.events_pure];rfl
        rw[h1 x.blk rfl _ _ _ er];simp only[List.nil_append];rw[doReturn_below (by simp[realF,hdf])];simp only[GStep.after,Array.append_empty]
      · cases hle
theorem ret_done(hp:TabOk p){v:Value}(hret:s.fr.ret=true)(hdf:s.fr.deferred=false)(ht:TRel f s.fr.tmps tmps)(hd:DsRel f s.fr.defers defers)
  (hcs:FsRel f s.cs cs) (hr:HRel f (fun l=>Mi l∨Sh l) Mi s.h w) (hop:retA p s=.done v h') :
  Back p.prog main f Mi Sh b bot s.h (G (realF s.fr tmps todo defers round) (cs++b::bot)) w v h':=by
 obtain⟨sfr,scs,sh⟩:=s;simp only[] at *;unfold retA at hop;simp only[] at hop;generalize edd:sfr.defers=dd at hop hd;cases hd with
 |nil=>
  simp only[] at hop;cases er:zTb p sfr sh with
  |none=>rw[er] at hop;cases hop
  |some v0=>
   rw[er] at hop;simp only[] at hop;obtain⟨p1,p2,p3⟩:=popA_done hop;simp only[] at p1 p2 p3;subst p1;subst p2;subst p3;cases hcs;obtain⟨fn,v',h1,h2,h3,h4⟩:=results_sound (w:=w) hp hr ht er;refine⟨v',w,seen p.prog sfr.fn ((results fn tmps).events p.prog w #[]),Mi,f,?_,f.le_refl,h2,(Did.still h4).seen _ _,hr,.refl _ _⟩;have hst:stepG p.prog main (G (realF sfr tmps todo [] round) ([]++b::bot)) w=unwind p.prog main (realF sfr tmps todo [] round) (b::bot) none w:=by simp[G,stepG,realF,hret]
   rw[hst];have hmode':(realF sfr tmps todo [] round).mode=.returning:=by simp[realF,hret]
   unfold unwind;have hdf':(realF sfr tmps todo [] round).defers=[]:=rfl;rw[hdf'];simp only[];rw[hmode'];simp only[];have hfn:p.prog.funcs[(realF sfr tmps todo [] round).fn]? = some fn:=h1;rw[hfn];simp only[];rw[Sem.runT_eq];have htm:(realF sfr tmps todo [] round).tmps=tmps:=rfl;rw[htm,h3];simp only[];rw[doReturn_below (by simp[realF,hdf])];simp only[GStep.after,Array.append_empty];rfl
 |cons hd0 hds=>
  exfalso;simp only[] at hop
  repeat' split at hop
  all_goals first|cases hop|(simp at *)
end
theorem done_sound(hp:TabOk p){s:S}{v:Value}{g:Goroutine}(hs:step p s=.done v h')(hdf:s.fr.deferred=false)(hrel:SRel f Mi Sh (b::bot) s g w):Back p.prog main f Mi Sh b bot s.h g w v h':=by
 obtain⟨tmps,todo,defers,round,cs,rfl,hsz,ht,hk,hd,hro,hcs,hr⟩:=hrel.out;unfold step at hs;simp only[] at hs;cases hret:s.fr.ret with
 |true=>rw[hret] at hs;exact ret_done hp hret hdf ht hd hcs hr hs
 |false=>
  rw[hret] at hs;simp only[] at hs;generalize etodo:s.fr.todo=td at hs hk;cases hk with
  |nil=>simp only[] at hs;refine leave_done hret hdf hro hcs hr hs (fun l e y w1 es er=>?_);subst e;simp[G,realF,hret,stepG,stepG.exec,er,-Sem.runT_eq];try rfl
  |cons hi hkk=>
   rename_i ai it k k';cases hi with
   |code c=>
    simp only[] at hs;cases c with
    |ret=>simp only[] at hs;refine leave_done hret hdf hro hcs hr hs (fun l e y w1 es er=>?_);subst e;simp[G,realF,hret,stepG,stepG.exec,er,-Sem.runT_eq];try rfl
    |exit id=>
     simp only[] at hs;obtain⟨x1,x2⟩:=exitTo_rel (id:=id) hkk;split at hs
     ·cases hs
     ·next e1=>have g1:=x2 e1;refine leave_done hret hdf hro hcs hr hs (fun l e y w1 es er=>?_);subst e;simp[G,realF,hret,stepG,stepG.exec,g1,er,-Sem.runT_eq];try rfl
    |goto l=>
     simp only[] at hs;obtain⟨x1,x2⟩:=gotoIn_rel (l:=l) hkk;split at hs
     ·cases hs
     ·next e1=>have g1:=x2 e1;refine leave_done hret hdf hro hcs hr hs (fun l e y w1 es er=>?_);subst e;simp[G,realF,hret,stepG,stepG.exec,g1,er,-Sem.runT_eq];try rfl
    |region id ops draw=>cases draw<;>cases hs
    |rangeFunc g params assign body=>
     simp only[] at hs;split at hs
     ·split at hs
      ·exact absurd hs rangeA_not_done
      ·cases hs
     ·exact absurd hs rangeA_not_done
    |cond c thn els=>simp only[] at hs;split at hs<;>cases hs
    |_=>cases hs
   |reg hdrop=>
    rename_i ops i rest;simp only[] at hs;cases rest with
    |nil=>cases hs
    |cons o rest=>
     simp only[] at hs;split at hs
     ·split at hs<;>cases hs
     ·exact absurd hs opA_not_done
   |endRF hl=>
    simp only[] at hs;split at hs
    ·split at hs<;>cases hs
    ·cases hs
   |beginRound=>
    simp only[] at hs;split at hs
    ·split at hs
     ·split at hs<;>cases hs
     ·cases hs
    ·cases hs
   |_=>cases hs
end
section
open Go.Conc (G)
variable {p:Tab}{f:Inj}{Mi Sh:Loc→Prop}{main:Bool}{h h':AHeap}{w:World}{bot0:List Frame}
inductive zea(f:Inj)(h:AHeap)(bot0:List Frame):Nat→List Lay→List Frame→Prop where
 |nil {Bd:Nat}:zea f h bot0 Bd [] bot0
 |cons {Bd Bd':Nat} {y:Lay} {lay:List Lay} {bot:List Frame} {full:List Phase} {qd:List Nat} {D:Nat→Prop} {i:Nat} {rest:List Nat} {a:Array Value} {k':List Item} {defers:List Deferred} {round:Option Nat} {cs:List Frame}
   (hB:Bd≤Bd') (hret:y.fr.ret=false) (ho:y.ops[i]? = some y.o) (hreg:RegAt y.ops full y.phs qd (some i) (fun j=>D j∨j=i) rest)
   (hsz:a.size=y.fr.nt) (ht:TX y.ops f qd (fun j=>D j∨j=i) y.fr.tmps a) (hpd:Pend f h Bd Bd' y.ops qd (fun j=>D j∨j=i) y.fr.tmps)
   (hdst:∀ q∈qd,∀ o d,y.ops[q]? = some o→o.dst=some d→d<y.fr.nt) (hdiff:∀ d,y.o.dst=some d→∀ q∈qd,dstIs y.ops q d=false)
   (hk:IsRel f y.fr.todo k') (hd:DsRel f y.fr.defers defers) (hro:RoRel f y.fr.round round) (hcs:FsRel f y.cs cs) (t:zea f h bot0 Bd lay bot) :
   zea f h bot0 Bd' (y::lay) (realF y.fr a (.inRegion y.ops (i::rest)::k') defers round::(cs++bot))
theorem zea.old{f':Inj}(hle:f.le f'){Bd:Nat}{lay:List Lay}{bot:List Frame}(hl:zea f h bot0 Bd lay bot)(ho:∀ l,f l=none→zKa h.objs l→l<Bd→f' l=none∧zKa h'.objs l):zea f' h' bot0 Bd lay bot:=by
 induction hl with
 |nil=>exact .nil
 |cons hB hret h1 hreg hsz ht hpd hdst hdiff hk hd hro hcs t ih=>exact .cons hB hret h1 hreg hsz (ht.mono hle) (hpd.old ho) hdst hdiff (hk.mono hle) (hd.mono hle) (hro.mono hle) (hcs.mono hle) (ih fun l a b c=>ho l a b (Nat.lt_of_lt_of_le c hB))
section
variable {fr:AF}{ops:Array Oper}{full:List Phase}{W:List Nat}{lay:List Lay}{bot:List Frame}{Bd:Nat}{k':List Item}{defers:List Deferred}{round:Option Nat}{cs:List Frame}
theorem ready_run{L:World→Prop}(hp:TabOk p)(hret:fr.ret=false):∀(rest:List Nat) {D:Nat→Prop} {f:Inj} {Mi:Loc→Prop} {a:Array Value} {w:World},Ready p ops full W f Mi Sh h Bd fr D rest a w→zea f h bot0 Bd lay bot →
  GoesX p.prog main Sh L (fun Mi' g' w'=>∃ f' D' rest' a',g'=G (realF fr a' (.inRegion ops rest'::k') defers round) (cs++bot)∧f.le f'∧Ready p ops full W f' Mi' Sh h Bd fr D' rest' a' w'∧zea f' h bot0 Bd lay bot ∧
   (∀ j,D j→D' j)∧(∀ j,D' j→D j∨j∈W)∧(rest'=[]∨∃ i r,rest'=i::r∧i∉W)) rest.length Mi (G (realF fr a (.inRegion ops rest::k') defers round) (cs++bot)) w
 | [],D,f,Mi,a,w,hr,hl=>.here fun w1 he=>⟨f,D,[],a,rfl,f.le_refl,hr.env he.1,hl,fun _ h=>h,fun _ h=>.inl h,.inl rfl⟩
 |q::rest,D,f,Mi,a,w,hr,hl=>by
  by_cases hq:q∈W
  ·refine .step rfl fun w1 he=>?_
   obtain⟨a',w',es,Mi',f',h1,h2,h3,h4,h5⟩:=ready_step (main:=main) (k':=k') (defers:=defers) (round:=round) (cs:=cs++bot) hp hret (hr.env he.1) hq;refine⟨_,w',es,Mi',h1,h3,(ready_run hp hret rest h4 (hl.old h2 fun l a b c=>⟨h5 l a b c,b⟩)).mono fun Mi2 g2 w2 ⟨f2,D2,r2,a2,x1,x2,x3,x4,x5,x6,x7⟩=>⟨f2,D2,r2,a2,x1,f.le_trans h2 x2,x3,x4,fun j hj=>x5 j (.inl hj),fun j hj=>?_,x7⟩⟩;rcases x6 j hj with(h|h)|h
   ·exact .inl h
   ·exact .inr (h▸hq)
   ·exact .inr h
  ·exact .here fun w1 he=>⟨f,D,q::rest,a,rfl,f.le_refl,hr.env he.1,hl,fun _ h=>h,fun _ h=>.inl h,.inr ⟨q,rest,rfl,hq⟩⟩
end
theorem phases_prev{B:T Nat}:∀{phs:List Phase} {qd:List Nat} {j0:Nat},phasesOk B qd (some j0) phs=true→∀ i∈opsOf phs,∃ j,(j=j0∨j∈louds phs)∧bef B i j=true
 | [],_,_,h,_,_=>by cases h
 |ph::phs,qd,j0,h,i,hi=>by
  simp only[phasesOk,Bool.and_eq_true] at h;obtain⟨⟨⟨h1,_⟩,_⟩,h4⟩:=h;simp only[opsOf,List.mem_append] at hi;rcases hi with(hi|hi)|hi
  ·rw[List.all_eq_true] at h1;exact⟨j0,.inl rfl,h1 i hi⟩
  ·cases el:ph.loud with
   |none=>rw[el] at hi;cases hi
   |some j=>rw[el] at hi h4;simp only[List.mem_singleton] at hi;subst hi;simp only[Bool.and_eq_true] at h4;exact⟨j0,.inl rfl,h4.1⟩
  ·cases el:ph.loud with
   |none=>
    rw[el] at h4;simp only[] at h4;cases phs with
    |nil=>cases hi
    |cons _ _=>cases h4
   |some j=>
    rw[el] at h4;simp only[Bool.and_eq_true] at h4;obtain⟨j',h5,h6⟩:=phases_prev h4.2 i hi;refine⟨j',.inr ?_,h6⟩;simp only[louds,el];rcases h5 with rfl|h5
    ·exact List.mem_cons_self
    ·exact List.mem_cons_of_mem _ h5
theorem zFb:∀{phs:List Phase} {i:Nat},i∈louds phs→i∈opsOf phs
 |ph::phs,i,h=>by
  simp only[louds] at h;simp only[opsOf,List.mem_append];cases el:ph.loud with
  |none=>rw[el] at h;exact .inr (zFb h)
  |some j=>
   rw[el] at h;rcases List.mem_cons.1 h with rfl|h
   ·exact .inl (.inr (by simp))
   ·exact .inr (zFb h)
theorem quiets_ops:∀{phs:List Phase} {i:Nat},i∈quiets phs→i∈opsOf phs
 |ph::phs,i,h=>by
  simp only[quiets,List.mem_append] at h;simp only[opsOf,List.mem_append];rcases h with h|h
  ·exact .inl (.inl h)
  ·exact .inr (quiets_ops h)
section
variable {ops:Array Oper}{full phs:List Phase}{ph:Phase}{qd:List Nat}{prev:Option Nat}{D D':Nat→Prop}{rest rest':List Nat}
theorem RegAt.turn(hg:RegAt ops full (ph::phs) qd prev D rest)(hl:Lin ops D' rest')(hc:zwb ops D')(h1:∀ j,D j→D' j)(h2:∀ j,D' j→D j∨j∈ph.quiet++qd)(h3:rest'=[]∨∃ i r,rest'=i::r∧i∉ph.quiet++qd) :
  match ph.loud with
  |none=>rest'=[]∧phs=[]
  |some i=>∃ r,rest'=i::r:=by
 have hok:=hg.ok;simp only[phasesOk,Bool.and_eq_true] at hok;obtain⟨_,h4⟩:=hok;have notD:∀ j∈opsOf (ph::phs),j∉ph.quiet→¬ D' j:=by
  intro j hj hjq hd;rcases h2 j hd with h|h
  ·exact hg.fut j hj h
  ·rcases List.mem_append.1 h with h|h
   ·exact hjq h
   ·exact hg.apartq j h hj
 have hnd:=hg.nd;simp only[opsOf] at hnd;cases el:ph.loud with
 |none=>
  rw[el] at h4;simp only[] at h4 ⊢;cases phs with
  |cons _ _=>cases h4
  |nil=>
   refine⟨?_,rfl⟩;rcases h3 with h3|⟨i,r,rfl,hi⟩
   ·exact h3
   ·exfalso;cases hl with
    |cons ho hn he t=>
     rcases hg.cov i (Array.getElem?_eq_some_iff.1 ho).1 with h|h|h
     ·exact hn (h1 i h)
     ·exact hi (List.mem_append.2 (.inr h))
     ·simp only[opsOf,el,List.append_nil] at h;exact hi (List.mem_append.2 (.inl h))
 |some j=>
  rw[el] at h4 hnd;simp only[Bool.and_eq_true] at h4 ⊢;have hjo:j∈opsOf (ph::phs):=by simp only[opsOf,el,List.mem_append];exact .inl (.inr (by simp))
  have hjq:j∉ph.quiet:=fun h=>by have:=(List.nodup_append.1 (List.nodup_append.1 hnd).1).2.2 j h j (by simp);exact this rfl
  have hjD:=notD j hjo hjq;rcases h3 with rfl|⟨i,r,rfl,hi⟩
  ·cases hl with
   |nil hall=>exact absurd (hall j (hg.lt j hjo)) hjD
  ·refine⟨r,?_⟩;cases hl with
   |cons ho hn he t=>
    rcases hg.cov i (Array.getElem?_eq_some_iff.1 ho).1 with h|h|h
    ·exact absurd (h1 i h) hn
    ·exact absurd (List.mem_append.2 (.inr h)) hi
    ·simp only[opsOf,el,List.mem_append] at h;rcases h with(h|h)|h
     ·exact absurd (List.mem_append.2 (.inl h)) hi
     ·simp at h;rw[h]
     ·exfalso;obtain⟨j',h5,h6⟩:=phases_prev h4.2 i h;have hD:=hc.head hg.plan.dn ho he j' h6;rcases h5 with rfl|h5
      ·exact hjD hD
      ·have hin:j'∈opsOf phs:=zFb h5;refine notD j' ?_ (fun hq=>?_) hD
       ·simp only[opsOf,el,List.mem_append];exact .inr hin
       ·exact(List.nodup_append.1 hnd).2.2 j' (List.mem_append.2 (.inl hq)) j' hin rfl
theorem RegAt.next(hg:RegAt ops full (ph::phs) qd prev D rest){i:Nat}(el:ph.loud=some i)(hl:Lin ops (fun j=>D' j∨j=i) rest')(hc:zwb ops (fun j=>D' j∨j=i))(h1:∀ j,D j→D' j)(h2:∀ j,D' j→D j∨j∈ph.quiet++qd) :
  RegAt ops full phs (ph.quiet++qd) (some i) (fun j=>D' j∨j=i) rest':=by
 have hok:=hg.ok;simp only[phasesOk,Bool.and_eq_true,el] at hok;obtain⟨_,h4⟩:=hok;have hnd:=hg.nd;simp only[opsOf,el] at hnd;obtain⟨n1,n2,n3⟩:=List.nodup_append.1 hnd;have sub:∀ j∈opsOf phs,j∈opsOf (ph::phs):=fun j hj=>by simp only[opsOf,List.mem_append];exact .inr hj
 have apq:∀ j∈ph.quiet++qd,j∉opsOf phs:=by
  intro j hj hin;rcases List.mem_append.1 hj with hj|hj
  ·exact n3 j (List.mem_append.2 (.inl hj)) j hin rfl
  ·exact hg.apartq j hj (sub j hin)
 refine⟨hg.plan,fun q hq=>hg.quiet q ?_,hl,hc,n2,fun j hj=>hg.lt j (sub j hj),fun j hj hd=>?_,fun j hj=>?_,fun j hj=>?_,fun j hj=>?_,apq,h4.2⟩
 ·simp only[quiets,List.mem_append] at hq ⊢;rcases hq with h|h|h
  ·exact .inl (.inr h)
  ·exact .inl (.inl h)
  ·exact .inr h
 ·rcases hd with hd|rfl
  ·rcases h2 j hd with h|h
   ·exact hg.fut j (sub j hj) h
   ·exact apq j h hj
  ·exact n3 j (List.mem_append.2 (.inr (by simp))) j hj rfl
 ·rcases hg.cov j hj with h|h|h
  ·exact .inl (.inl (h1 j h))
  ·exact .inr (.inl (List.mem_append.2 (.inr h)))
  ·simp only[opsOf,el,List.mem_append] at h;rcases h with(h|h)|h
   ·exact .inr (.inl (List.mem_append.2 (.inl h)))
   ·simp at h;exact .inl (.inr h)
   ·exact .inr (.inr h)
 ·cases hj;exact .inr rfl
 ·rcases List.mem_append.1 hj with h|h
  ·exact hg.lt j (by simp only[opsOf,List.mem_append];exact .inl (.inl h))
  ·exact hg.qlt j h
end
end
section
open Go.Conc (G)
variable {p:Tab}{f:Inj}{Mi Sh:Loc→Prop}{main:Bool}{h h':AHeap}{w:World}{bot0:List Frame}
inductive XRel(f:Inj)(Mi Sh:Loc→Prop)(bot0:List Frame):L→Goroutine→World→Prop where
 |plain {s:S} {lay:List Lay} {g:Goroutine} {w:World} {bot:List Frame} {Bd:Nat} (hs:SRel f Mi Sh bot s g w) (hB:Bd≤s.h.next) (hl:zea f s.h bot0 Bd lay bot):XRel f Mi Sh bot0 ⟨s,none,lay⟩ g w
 |reg {fr:AF} {as:List AF} {h:AHeap} {ops:Array Oper} {full phs:List Phase} {lay:List Lay} {w:World} {bot:List Frame} {Bd Bd':Nat} {qd:List Nat} {prev:Option Nat} {D:Nat→Prop} {rest:List Nat} {a:Array Value} {k':List Item} {defers:List Deferred} {round:Option Nat} {cs:List Frame}
   (hret:fr.ret=false) (hreg:RegAt ops full phs qd prev D rest) (hsz:a.size=fr.nt) (ht:TX ops f qd D fr.tmps a) (hpd:Pend f h Bd Bd' ops qd D fr.tmps) (hdst:∀ q∈qd,∀ o d,ops[q]? = some o→o.dst=some d→d<fr.nt)
   (hk:IsRel f fr.todo k') (hd:DsRel f fr.defers defers) (hro:RoRel f fr.round round) (hcs:FsRel f as cs) (hr:HRel f (fun l=>Mi l∨Sh l) Mi h w) (hB:Bd≤h.next) (hl:zea f h bot0 Bd lay bot) :
   XRel f Mi Sh bot0 ⟨⟨fr,as,h⟩,some (ops,phs),lay⟩ (G (realF fr a (.inRegion ops rest::k') defers round) (cs++bot)) w
theorem XRel.env{x:L}{g:Goroutine}{w':World}(hr:XRel f Mi Sh bot0 x g w)(he:Env (fun l=>Mi l∨Sh l) w w'):XRel f Mi Sh bot0 x g w':=by
 cases hr with
 |plain hs hB hl=>exact .plain (hs.env he) hB hl
 |reg hret hreg hsz ht hpd hdst hk hd hro hcs hr hB hl=>exact .reg hret hreg hsz ht hpd hdst hk hd hro hcs (hr.env he) hB hl
def LAdv(P:Program)(main:Bool)(f:Inj)(Mi Sh:Loc→Prop)(bot0:List Frame)(g:Goroutine)(w:World)(x':L):Prop:=
 ∃ g' w' es Mi' f',stepG P main g w=.go g' w' es∧f.le f'∧Did Mi Sh w w' es Mi'∧XRel f' Mi' Sh bot0 x' g' w'
section
variable {ops:Array Oper}{W:List Nat}{D:Nat→Prop}{t t':T Value}{a:Array Value}{nt:Nat}{dst:Option Tmp}{v v':Value}
theorem putT_spec(hp:putT nt t dst v=some t'):(dst=none∧t'=t)∨∃ d,dst=some d∧d<nt∧t'=t.set d v:=by
 unfold putT at hp;split at hp
 ·cases hp;exact .inl ⟨rfl,rfl⟩
 ·next d=>
  split at hp
  ·next hb=>cases hp;exact .inr ⟨d,rfl,Nat.lt_of_succ_le (by simpa[Nat.blt] using hb),rfl⟩
  ·cases hp
theorem TX.put(ht:TX ops f W D t a)(hp:putT nt t dst v=some t')(hv:VRel f v v')(hsz:a.size=nt):TX ops f W D t' (putDst dst a v'):=by
 rcases putT_spec hp with⟨rfl,rfl⟩|⟨d,rfl,hlt,rfl⟩
 ·exact ht
 ·intro i hi;by_cases e:i=d
  ·subst e;rw[T.get_set_same];simp[putDst,Array.getD,hsz,hlt];exact hv
  ·rw[T.get_set_ne _ _ e];have:(putDst (some d) a v').getD i undef=a.getD i undef:=by simp only[putDst];rw[Array.getD_eq_getD_getElem?,Array.getD_eq_getD_getElem?,Array.getElem?_setIfInBounds_ne (Ne.symm e)]
   rw[this];exact ht i hi
theorem TX.more(ht:TX ops f W D t a){i:Nat}(hi:i∉W):TX ops f W (fun j=>D j∨j=i) t a:=fun j hj=>ht j fun q hq hn=>hj q hq (fun h=>h.elim hn fun e=>hi (e▸hq))
theorem Pend.put{Bd Bd':Nat}(hpd:Pend f h Bd Bd' ops W D t)(hp:putT nt t dst v=some t')(hd:∀ d,dst=some d→∀ q∈W,dstIs ops q d=false):Pend f h Bd Bd' ops W D t':=by
 rcases putT_spec hp with⟨rfl,rfl⟩|⟨d,rfl,hlt,rfl⟩
 ·exact hpd
 ·intro q hq hn o d' h1 h2 h3 k l h4;have hne:d'≠d:=by rintro rfl;have:=hd d' rfl q hq;rw[zUa.2 ⟨o,h1,h3⟩] at this;cases this
  rw[T.get_set_ne _ _ hne] at h4;exact hpd q hq hn o d' h1 h2 h3 k l h4
theorem putDst_size:(putDst dst a v).size=a.size:=by unfold putDst;cases dst<;>simp
end
theorem Waits.pend{ops:Array Oper}{fr:AF}{W:List Nat}{D:Nat→Prop}{Bd:Nat}(hw:Waits p ops f h Bd fr W D)(hwf:WF h):Pend f h Bd h.next ops W D fr.tmps:=by intro q hq hn o d h1 h2 h3 k l h4;obtain⟨o',r,g1,g2,g3⟩:=hw.chk q hq hn;rw[h1] at g1;cases g1;have hr:=check1_label g2 h2 h3 h4;subst hr;obtain⟨g4,g5⟩:=g3 l rfl;have hlo:=check1_lonely g2;refine⟨g4,hlo,g5,?_⟩;obtain⟨c,x,e⟩:=hlo;exact hwf.lt l _ e
theorem Pend.more{ops:Array Oper}{W:List Nat}{D D':Nat→Prop}{t:T Value}{Bd Bd':Nat}(hp:Pend f h Bd Bd' ops W D t)(hd:∀ j,D j→D' j):Pend f h Bd Bd' ops W D' t:=
 fun q hq hn=>hp q hq fun h=>hn (hd q h)
section
variable {fr:AF}{as:List AF}{ops:Array Oper}{full phs:List Phase}{ph:Phase}{qd:List Nat}{prev:Option Nat}{D D0:Nat→Prop}{i:Nat}{o:Oper}{r rest0:List Nat}{lay:List Lay}{bot:List Frame}{Bd:Nat}{a:Array Value}{k':List Item}{defers:List Deferred}{round:Option Nat}{cs:List Frame}{x':L}
theorem loud_sound(hp:TabOk p){x:L}{t:T Value}(hx:x.s.fr=fr)(hxa:x.s.cs=as)(hxl:x.lay=lay)(hret:fr.ret=false)
  (hg:RegAt ops full (ph::phs) qd prev D0 rest0) (el:ph.loud=some i) (hr:Ready p ops full (ph.quiet++qd) f Mi Sh h Bd {fr with tmps:=t} D (i::r) a w) (h1:∀ j,D0 j→D j) (h2:∀ j,D j→D0 j∨j∈ph.quiet++qd)
  (ho:ops[i]? = some o) (hk:IsRel f fr.todo k') (hd:DsRel f fr.defers defers) (hro:RoRel f fr.round round) (hcs:FsRel f as cs) (hB:Bd≤h.next) (hl:zea f h bot0 Bd lay bot) (hn:loudD p x ops o phs t h=.next x') :
  LAdv p.prog main f Mi Sh bot0 (G (realF {fr with tmps:=t} a (.inRegion ops (i::r)::k') defers round) (cs++bot)) w x':=by
 obtain⟨⟨xfr,xas,xh⟩,xreg,xlay⟩:=x;simp only[] at hx hxa hxl;subst hx;subst hxa;subst hxl;obtain⟨plan,lin,closed,size,temps,waits,heap,dst⟩:=hr;simp only[] at size temps;cases lin with
 |cons ho' hnD he lt=>
 rw[ho] at ho';cases ho';have hreg:=hg.next el lt (closed.cons plan.ok.dn ho he) h1 h2;have hiW:i∉ph.quiet++qd:=by
  have hnd:=hg.nd;simp only[opsOf,el] at hnd;intro hin;rcases List.mem_append.1 hin with hin|hin
  ·exact(List.nodup_append.1 (List.nodup_append.1 hnd).1).2.2 i hin i (by simp) rfl
  ·exact hg.apartq i hin (by simp only[opsOf,el,List.mem_append];exact .inl (.inr (by simp)))
 have hdiff:∀ d,o.dst=some d→∀ q∈ph.quiet++qd,dstIs ops q d=false:=by intro d hd q hq;have hqs:=hreg.qlt q hq;exact(pairOk_spec (Array.getElem?_eq_getElem hqs) ho hd (plan.ok.pair q i hqs (Array.getElem?_eq_some_iff.1 ho).1)).2 fun e=>hiW (e▸hq)
 have hpend:=(waits.pend heap.wf).more (D':=fun j=>D j∨j=i) fun j hj=>.inl hj
 simp only[] at hpend;have htx:=temps.more hiW;have hlook:∀ j,looks ops o j=true→VRel f ((t.get j).getD undef) (a.getD j undef):=fun j hj=>temps j (plan.looks closed ho he hj)
 unfold loudD at hn;simp only[] at hn;cases hw:zX ops {xfr with tmps:=t} o with
 |false=>
  rw[hw] at hn;simp only[] at hn;have hw':=(wanted_at (fr:={xfr with tmps:=t}) o hlook).trans hw;cases ep:putT xfr.nt t o.dst undef with
  |none=>rw[ep] at hn;cases hn
  |some t2=>
   rw[ep] at hn;cases hn;exact⟨_,w,#[],Mi,f,stepG_unwanted (fr:={xfr with tmps:=t}) hret ho hw',f.le_refl,.quiet,
    .reg (fr:={xfr with tmps:=t2}) hret hreg (by rw[putDst_size];exact size) (htx.put ep (v':=undef) (.tuple .nil) size) (hpend.put ep hdiff) dst hk hd hro hcs heap hB hl⟩
 |true=>
  rw[hw] at hn;simp only[] at hn;have hw':=(wanted_at (fr:={xfr with tmps:=t}) o hlook).trans hw;have hops:∀ j,zhc j o.op.operands.toList=true→VRel f ((t.get j).getD undef) (a.getD j undef):=fun j hj=>hlook j (by unfold looks;rw[hj];rfl)
  have hev:=evOn_rel (o:=o) (fr:=realF {xfr with tmps:=t} a (.inRegion ops (i::r)::k') defers round) (t:=t) rfl hops;cases ea:aop p h (evOn o t) o with
  |none=>rw[ea] at hn;cases hn
  |some r0=>
   rw[ea] at hn;obtain⟨r',w',f',Mi',g1,g2,g3,g4,g5,g6⟩:=aop_sound (w:=w) hp heap hev ea;have hdefer:∀ c,o.op≠.defer c:=by
    intro c hc;cases r0 with
    |defer d h1=>cases hn
    |_=>
     unfold aop at ea;rw[hc] at ea;simp only[] at ea;split at ea
     ·split at ea<;>cases ea
     ·cases ea
   have hst:=stepG_wanted (p:=p) (main:=main) (fr:={xfr with tmps:=t}) (rest:=r) (k':=k') (cs:=cs++bot) (w:=w) (defers:=defers) (round:=round) hret ho hw' hdefer;have hold:∀ l,f l=none→zKa h.objs l→l<Bd→f' l=none∧zKa r0.heap.objs l:=fun l a b _=>g6.lonely a b
   have hold':∀ l,f l=none→zKa h.objs l→l<h.next→f' l=none∧zKa r0.heap.objs l:=fun l a b _=>g6.lonely a b
   have hl':=hl.old g2 hold;have hpend':=hpend.old hold';cases g3 with
   |val hv=>
    rename_i v v' hh;simp only[] at hn;simp only[OpR.heap] at g5 g6 hl' hpend';cases ep:putT xfr.nt t o.dst v with
    |none=>rw[ep] at hn;cases hn
    |some t2=>rw[ep] at hn;cases hn;refine⟨_,w',_,Mi',f',?_,g2,g4.seen p.prog xfr.fn,.reg (fr:={xfr with tmps:=t2}) (a:=putDst o.dst a v') hret hreg (by rw[putDst_size];exact size) ((htx.mono g2).put ep hv size) (hpend'.put ep hdiff) dst (hk.mono g2) (hd.mono g2) (hro.mono g2) (hcs.mono g2) g5 (Nat.le_trans hB g6.next) hl'⟩;rw[hst,zba (fun _ _ _ _ h=>by cases h) g1 (.inl ⟨v',rfl⟩)];simp only[outcome,zTa ho,GStep.after,Array.append_empty];rfl
   |skip=>
    rename_i hh;simp only[] at hn;simp only[OpR.heap] at g5 g6 hl' hpend';cases ep:putT xfr.nt t o.dst undef with
    |none=>rw[ep] at hn;cases hn
    |some t2=>rw[ep] at hn;cases hn;refine⟨_,w',_,Mi',f',?_,g2,g4.seen p.prog xfr.fn,.reg (fr:={xfr with tmps:=t2}) (a:=putDst o.dst a undef) hret hreg (by rw[putDst_size];exact size) ((htx.mono g2).put ep (.tuple .nil) size) (hpend'.put ep hdiff) dst (hk.mono g2) (hd.mono g2) (hro.mono g2) (hcs.mono g2) g5 (Nat.le_trans hB g6.next) hl'⟩;rw[hst,zba (fun _ _ _ _ h=>by cases h) g1 (.inr (.inl rfl))];simp only[outcome,zTa ho,GStep.after,Array.append_empty];rfl
   |call ha=>
    rename_i kf args args' hh;simp only[] at hn;simp only[OpR.heap] at g5 g6 hl' hpend';cases es:zIa p kf args false with
    |none=>rw[es] at hn;cases hn
    |some c=>
     rw[es] at hn;cases hn;have q1:=zib hp (kind:=.normal) ha es rfl;have hlay:zea f' hh bot0 h.next (⟨{xfr with tmps:=t},xas,ops,o,phs⟩::xlay) (realF {xfr with tmps:=t} a (.inRegion ops (i::r)::k') defers round::(cs++bot)):=
      .cons (y:=⟨{xfr with tmps:=t},xas,ops,o,phs⟩) hB hret ho hreg size (htx.mono g2) hpend' dst hdiff (hk.mono g2) (hd.mono g2) (hro.mono g2) (hcs.mono g2) hl'
     refine⟨_,w',_,Mi',f',?_,g2,g4.seen p.prog xfr.fn,.plain ⟨⟨_,[],rfl,q1,.nil⟩,g5⟩ g6.next hlay⟩;rw[hst,zba (fun _ _ _ _ h=>by cases h) g1 (.inr (.inr (.inl ⟨_,_,rfl⟩)))];simp only[outcome,GStep.after,Array.append_empty,List.nil_append]
   |yield hl0 ha hol hrl hnn=>
    rename_i l x args args' hh al l';simp only[hol] at hn;simp only[OpR.heap] at g5 g6 hl' hpend';cases es:setParams al.nt al.params.toList args al.tmps with
    |none=>rw[es] at hn;cases hn
    |some t2=>
     rw[es] at hn;cases hn;obtain⟨q1,q2⟩:=setMany_rel es ha hrl.size hrl.tmps;have hfold:((l'.params.zip args').foldl (fun tmps (x:Tmp×Value)=>tmps.setIfInBounds x.1 x.2) l'.tmps)=((al.params.toList.zip args'.toList).foldl (fun tmps (x:Tmp×Value)=>tmps.setIfInBounds x.1 x.2) l'.tmps):=by rw[hrl.params,←Array.foldl_toList,Array.toList_zip]
     have hlay:zea f' hh bot0 h.next (⟨{xfr with tmps:=t},xas,ops,o,phs⟩::xlay) (realF {xfr with tmps:=t} a (.inRegion ops (i::r)::k') defers round::(cs++bot)):=
      .cons (y:=⟨{xfr with tmps:=t},xas,ops,o,phs⟩) hB hret ho hreg size (htx.mono g2) hpend' dst hdiff (hk.mono g2) (hd.mono g2) (hro.mono g2) (hcs.mono g2) hl'
     refine⟨_,w',_,Mi',f',?_,g2,g4.seen p.prog xfr.fn,.plain ⟨⟨_,[],rfl,⟨(al.params.toList.zip args'.toList).foldl (fun tmps (x:Tmp×Value)=>tmps.setIfInBounds x.1 x.2) l'.tmps,[.code al.assign,.beginRound,.code al.body],[],some x.blk,rfl,?_,?_,.cons (.code _) (.cons .beginRound (.cons (.code _) .nil)),.nil,.some hl0⟩,.nil⟩,g5⟩ g6.next hlay⟩
     ·rw[hst,zba (fun _ _ _ _ h=>by cases h) g1 (.inr (.inr (.inr (.inl ⟨_,_,_,_,_,rfl⟩))))];rw[←hfold];simp only[outcome,GStep.after,Array.append_empty,List.nil_append,Frame.round,realF,hrl.fn,hrl.assign,hrl.body];rfl
     ·exact q2
     ·exact q1
   |defer hdd=>cases hn
   |recover=>cases hn
end
end
section
open Go.Conc (G)
variable {p:Tab}{f:Inj}{Mi Sh:Loc→Prop}{main:Bool}{h h':AHeap}{w:World}{bot0:List Frame}
theorem quiet_not_loud:∀{phs:List Phase} {q:Nat},(opsOf phs).Nodup→q∈quiets phs→q∉louds phs
 |ph::phs,q,hnd,hq=>by
  simp only[opsOf] at hnd;obtain⟨n1,n2,n3⟩:=List.nodup_append.1 hnd;simp only[quiets,List.mem_append] at hq;intro hl;simp only[louds] at hl;rcases hq with hq|hq
  ·cases el:ph.loud with
   |none=>rw[el] at hl;exact n3 q (List.mem_append.2 (.inl hq)) q (zFb hl) rfl
   |some j=>
    rw[el] at hl n1;rcases List.mem_cons.1 hl with rfl|hl
    ·exact(List.nodup_append.1 n1).2.2 q hq q (by simp) rfl
    ·exact n3 q (List.mem_append.2 (.inl hq)) q (zFb hl) rfl
  ·cases el:ph.loud with
   |none=>rw[el] at hl;exact quiet_not_loud n2 hq hl
   |some j=>
    rw[el] at hl n3;rcases List.mem_cons.1 hl with rfl|hl
    ·exact n3 q (List.mem_append.2 (.inr (by simp))) q (quiets_ops hq) rfl
    ·exact quiet_not_loud n2 hq hl
theorem RegAt.first{ops:Array Oper}{phs:List Phase}(h:PlanOk ops phs)(t:Nat):RegAt ops phs phs [] none (fun _=>False) (Region.schedule true ops t):=
 {plan:=h
  quiet:=fun q hq=>quiet_not_loud h.nd (by simpa using hq)
  lin:=lin_schedule h.dn t
  closed:=.none
  nd:=h.nd
  lt:=h.lt
  fut:=fun _ _ h=>h
  cov:=fun i hi=>.inr (.inr (h.cov i hi))
  prevD:=fun i e=>by cases e
  qlt:=fun _ h=>absurd h (by simp)
  apartq:=fun _ h=>absurd h (by simp)
  ok:=h.ok}
theorem begin_draw(hmix:p.prog.follows .mixedOrders=true){s:S}{id:Nat}{ops:Array Oper}{k:List AI}{phs:List Phase}{lay:List Lay}{g:Goroutine}(hat:drawAt s.fr=some (id,ops,k))(hok:planOk ops phs=true)(hr:XRel f Mi Sh bot0 ⟨s,none,lay⟩ g w) :
  LAdv p.prog main f Mi Sh bot0 g w ⟨{s with fr:={s.fr with todo:=k}},some (ops,phs),lay⟩:=by
 cases hr with
 |plain hs hB hl=>
 rename_i bot Bd;obtain⟨tmps,todo,defers,round,cs,rfl,hsz,ht,hk,hd,hro,hcs,hr⟩:=hs.out;unfold drawAt at hat;split at hat
 ·next id' ops' k' e1 e2=>
  cases hat;generalize etodo:s.fr.todo=td at hk e2;subst e2;cases hk with
  |cons hi hkk=>
  rename_i it kk;cases hi with
  |code c=>
  refine⟨G (realF {s.fr with todo:=k} tmps (.inRegion ops (Region.schedule true ops (w.tape w.drawn (.order s.fr.fn id)))::kk) defers round) (cs++bot),{w with drawn:=w.drawn+1},#[],Mi,f,?_,f.le_refl,⟨env_drew _ w,fun l=>⟨.inl,fun h=>h.elim (fun h=>h) fun⟨b,_,h1,h2⟩=>absurd h2 (Nat.not_lt.2 h1)⟩,fun e he=>absurd he (by simp)⟩,
   .reg (fr:={s.fr with todo:=k}) (Bd':=s.h.next) e1 (.first (planOk_spec hok) _) hsz (fun i _=>ht i) (fun q hq=>absurd hq (by simp)) (fun q hq=>absurd hq (by simp)) hkk hd hro hcs (hr.of_heap rfl) hB hl⟩
  simp[G,realF,e1,stepG,stepG.exec,choose,Sem.run,Question.forced,Question.cut,hmix]
 ·cases hat
theorem XRel.running{x:L}{g:Goroutine}(hr:XRel f Mi Sh bot0 x g w):g.status=.running:=by
 cases hr with
 |plain hs _ _=>exact hs.running
 |reg=>rfl
theorem nodup_length:∀(n:Nat) (l:List Nat),l.Nodup→(∀ x∈l,x<n)→l.length≤n
 |0,[],_,_=>Nat.le_refl _
 |0,x::_,_,h=>absurd (h x (by simp)) (by omega)
 |n+1,l,hnd,h=>by
  have h1:=nodup_length n (l.erase n) (hnd.erase n) fun x hx=>by
   have h2:=h x (List.mem_of_mem_erase hx);have h3:x≠n:=by rintro rfl;exact(List.Nodup.mem_erase_iff hnd).1 hx |>.1 rfl
   omega
  have h2:=List.length_erase (a:=n) (l:=l);split at h2<;>omega
theorem Lin.notD{ops:Array Oper}:∀{l:List Nat} {D:Nat→Prop},Lin ops D l→∀ i∈l,¬ D i
 |_,_,.nil _,_,h=>by cases h
 |_,_,.cons ho hn he t,j,h=>by
  rcases List.mem_cons.1 h with rfl|h
  ·exact hn
  ·exact fun hd=>t.notD j h (.inl hd)
theorem Lin.nodup{ops:Array Oper}:∀{l:List Nat} {D:Nat→Prop},Lin ops D l→l.Nodup
 |_,_,.nil _=>List.nodup_nil
 |_,_,.cons ho hn he t=>List.nodup_cons.2 ⟨fun h=>t.notD _ h (.inr rfl),t.nodup⟩
theorem Lin.length{ops:Array Oper}{l:List Nat}{D:Nat→Prop}(h:Lin ops D l):l.length≤ops.size:=nodup_length _ _ h.nodup h.in_range
def costOf(x:L):Nat:=match x.reg with|none=>1|some (ops,_)=>ops.size+1
def costL(p:Tab)(pl:T (T (List Phase))):Nat→L→Nat
 |0,_=>0
 |n+1,x=>match stepL p pl x with|.next x1=>costOf x+costL p pl n x1|_=>0
theorem stepL_sound{L0:World→Prop}(hp:TabOk p)(hmix:p.prog.follows .mixedOrders=true){pl:T (T (List Phase))}{x x':L}{g:Goroutine}(hs:stepL p pl x=.next x')(hr:XRel f Mi Sh bot0 x g w) :
  GoesX p.prog main Sh L0 (fun Mi' g' w'=>∃ f',f.le f'∧XRel f' Mi' Sh bot0 x' g' w') (costOf x) Mi g w:=by
 have one:g.status=.running→(∀ w1,Env (fun l=>Mi l∨Sh l) w w1→LAdv p.prog main f Mi Sh bot0 g w1 x')→GoesX p.prog main Sh L0 (fun Mi' g' w'=>∃ f',f.le f'∧XRel f' Mi' Sh bot0 x' g' w') 1 Mi g w:=by
  intro hg h;refine .step (n:=0) hg fun w1 he=>?_
  obtain⟨g',w',es,Mi',f',a,b,c,d⟩:=h w1 he.1;exact⟨g',w',es,Mi',a,c,.here fun w2 h2=>⟨f',b,d.env h2.1⟩⟩
 have hg:=hr.running;unfold stepL at hs;cases hr with
 |plain hsr hB hl=>
  rename_i s lay bot Bd;simp only[] at hs;cases hat:drawAt s.fr with
  |some y=>
   obtain⟨id,ops,k⟩:=y;rw[hat] at hs;simp only[] at hs;split at hs
   ·split at hs
    ·split at hs
     ·next hok=>cases hs;exact one hg fun w1 he=>begin_draw hmix hat hok (.plain (hsr.env he) hB hl)
     ·cases hs
    ·cases hs
   ·cases hs
  |none=>
   rw[hat] at hs;simp only[] at hs;cases est:step p s with
   |next s1=>
    rw[est] at hs;cases hs;refine one hg fun w1 he=>?_
    obtain⟨g',w',es,Mi',f',a,b,c,d,e⟩:=step_sound (main:=main) hp est (hsr.env he);exact⟨g',w',es,Mi',f',a,b,c,.plain d (Nat.le_trans hB e.next) (hl.old b fun l a b _=>e.lonely a b)⟩
   |stop s1=>rw[est] at hs;cases hs
   |stuck=>rw[est] at hs;cases hs
   |done v h2=>
    rw[est] at hs;simp only[] at hs;cases hl with
    |nil=>cases hs
    |cons hB1 hret1 ho hreg hsz ht hpd hdst hdiff hk hd hro hcs t=>
    rename_i Bd1 y lay bot full qd D i rest a k' defers round cs;simp only[] at hs;split at hs
    ·next t2 edf ep=>
     cases hs;refine one hg fun w1 he=>?_
     obtain⟨v',w',es,Mi',f',a1,a2,a3,a4,a5,a6⟩:=done_sound (main:=main) hp est edf (hsr.env he);rw[zTa ho] at a1;refine⟨_,w',es,Mi',f',a1,a2,a4,.reg (fr:={y.fr with tmps:=t2}) hret1 hreg (by rw[putDst_size];exact hsz) ((ht.mono a2).put ep a3 hsz) ((hpd.old fun l a b _=>a6.lonely a b).put ep hdiff) hdst (hk.mono a2) (hd.mono a2) (hro.mono a2) (hcs.mono a2) a5 (Nat.le_trans hB1 (Nat.le_trans hB a6.next)) (t.old a2 fun l a b _=>a6.lonely a b)⟩
    ·cases hs
 |reg hret hreg hsz ht hpd hdst hk hd hro hcs hr hB hl=>
  rename_i fr as h ops full phs lay bot Bd Bd' qd prev D rest a k' defers round cs;simp only[] at hs;cases phs with
  |nil=>cases hs
  |cons ph phs=>
  simp only[] at hs;cases eph:phaseA p ops fr ph h with
  |none=>rw[eph] at hs;cases hs
  |some y=>
   obtain⟨t1,h1⟩:=y;rw[eph] at hs;simp only[] at hs;obtain⟨hready,hold⟩:=phase_ready hreg hsz ht hpd hdst hr hB eph;have hl1:zea f h1 bot0 Bd lay bot:=hl.old f.le_refl fun l a b _=>hold.lonely a b
   have hB1:Bd≤h1.next:=Nat.le_trans hB hold.next;have hlen:rest.length≤ops.size:=hreg.lin.length;refine GoesX.more (n:=rest.length+1) ?_ (by simp only[costOf];omega);refine GoesX.bind (m:=1) ?_ (ready_run (main:=main) (Sh:=Sh) (L:=L0) (fr:={fr with tmps:=t1}) (k':=k') (defers:=defers) (round:=round) (cs:=cs) hp hret rest hready hl1);intro Mi2 g2 w2 hQ;obtain⟨f2,D2,rest2,a2,rfl,b2,b3,b4,b5,b6,b7⟩:=hQ w2 (.refl _ _ _);have hturn:=hreg.turn b3.lin b3.closed b5 b6 b7;cases el:ph.loud with
   |none=>
    rw[el] at hs hturn;obtain⟨rfl,rfl⟩:=hturn;simp only[] at hs;cases hs;refine .step (n:=0) rfl fun w3 he=>?_
    have b3':=b3.env he.1;have hall:∀ i,i<ops.size→D2 i:=by
     cases b3'.lin with
     |nil h=>exact h
    have htr:TRel f2 t1 a2:=fun i=>b3'.temps i fun q hq hn=>absurd (hall q (by
     rcases List.mem_append.1 hq with hq|hq
     ·exact hreg.lt q (by simp only[opsOf,List.mem_append];exact .inl (.inl hq))
     ·exact hreg.qlt q hq)) hn
    refine⟨_,w3,#[],Mi2,?_,.quiet,.here fun w4 h4=>⟨f2,b2,.plain (s:=⟨{fr with tmps:=t1},as,h1⟩) ⟨⟨realF {fr with tmps:=t1} a2 k' defers round,cs,rfl,⟨_,_,_,_,rfl,b3'.size,htr,hk.mono b2,hd.mono b2,hro.mono b2⟩,hcs.mono b2⟩,b3'.heap.env h4.1⟩ hB1 b4⟩⟩;simp[G,realF,hret,stepG,stepG.exec]
   |some i=>
    rw[el] at hs hturn;obtain⟨r,rfl⟩:=hturn;simp only[] at hs;cases eo:ops[i]? with
    |none=>rw[eo] at hs;cases hs
    |some o=>
     rw[eo] at hs;simp only[] at hs;refine .step (n:=0) rfl fun w3 he=>?_
     obtain⟨g',w',es,Mi',f',c1,c2,c3,c4⟩:=loud_sound (main:=main) (fr:=fr) (as:=as) (lay:=lay) (x:=⟨⟨fr,as,h⟩,some (ops,ph::phs),lay⟩) hp rfl rfl rfl hret hreg el (b3.env he.1) b5 b6 eo (hk.mono b2) (hd.mono b2) (hro.mono b2) (hcs.mono b2) hB1 b4 hs;exact⟨g',w',es,Mi',c1,c3,.here fun w4 h4=>⟨f',f.le_trans b2 c2,c4.env h4.1⟩⟩
theorem runL_sound{L0:World→Prop}(hp:TabOk p)(hmix:p.prog.follows .mixedOrders=true){pl:T (T (List Phase))}:∀(n:Nat) {x x':L} {f:Inj} {Mi:Loc→Prop} {g:Goroutine} {w:World},runL p pl n x=.next x'→XRel f Mi Sh bot0 x g w →
  GoesX p.prog main Sh L0 (fun Mi' g' w'=>∃ f',f.le f'∧XRel f' Mi' Sh bot0 x' g' w') (costL p pl n x) Mi g w
 |0,x,x',f,Mi,g,w,h,hr=>by cases h;exact .here fun w1 he=>⟨f,f.le_refl,hr.env he.1⟩
 |n+1,x,x',f,Mi,g,w,h,hr=>by
  simp only[runL] at h;cases e:stepL p pl x with
  |next x1=>rw[e] at h;simp only[costL,e];refine GoesX.bind ?_ (stepL_sound hp hmix e hr);intro Mi2 g2 w2 hQ;obtain⟨f2,a,b⟩:=hQ w2 (.refl _ _ _);exact(runL_sound hp hmix n h b).mono fun Mi3 g3 w3 ⟨f3,c,d⟩=>⟨f3,f.le_trans a c,d⟩
  |done v h1=>rw[e] at h;cases h
  |stop s1=>rw[e] at h;cases h
  |stuck=>rw[e] at h;cases h
end
section
def runTo(p:Tab)(pl:T (T (List Phase)))(q:L→Bool):Nat→L→Option L
 |0,_=>none
 |n+1,x=>
  match q x with
  |true=>some x
  |false=>match stepL p pl x with
   |.next x=>runTo p pl q n x
   |_=>none
def opAt(x:L):Option (Array Oper×Nat×Oper×List Oper×List AI):=
 match x.reg,x.s.fr.ret,x.s.fr.todo with
 |none,false,.reg ops i (o::rest)::k=>some (ops,i,o,rest,k)
 |_,_,_=>none
def zic(fn:FuncId)(x:L):Bool:=
 match opAt x with
 |some (_,_,o,_,_)=>match o.op with
  |.call c=>match c.callee with
   |.value v=>match x.s.fr.ev v with
    |some (.func (.func g) _ _)=>Nat.beq g fn
    |_=>false
   |_=>false
  |_=>false
 |none=>false
def allocs(ty:TypeId)(x:L):Bool:=
 match opAt x with
 |some (_,_,o,_,_)=>match o.op with
  |.alloc t=>Nat.beq t ty
  |_=>false
 |none=>false
def goesAt(x:L):Bool:=
 match opAt x with
 |some (_,_,o,_,_)=>match o.op with
  |.go _=>true
  |_=>false
 |none=>false
def zNa(p:Tab)(fn:FuncId)(chk:List Value→Bool)(x:L):Option L:=
 match x.lay,x.s.fr.round,opAt x with
 | [],none,some (ops,i,o,rest,k)=>
  match zX ops x.s.fr o,aop p x.s.h x.s.fr.ev o,zta x.s.fr o (.tuple #[]) (.reg ops (Nat.succ i) rest::k) with
  |true,some (.call g args h),some fr=>match Nat.beq g fn&&chk args with
   |true=>some ⟨{x.s with fr,h},none,[]⟩
   |false=>none
  |_,_,_=>none
 |_,_,_=>none
def zjc(bW:Nat)(args:List Value):Bool:=match args with | [.pointer (some ⟨b,0,none⟩)]=>Nat.beq b bW|_=>false
def argsAdd(bW:Nat)(args:List Value):Bool:=match args with | [.pointer (some ⟨b,0,none⟩),.int .i64 1]=>Nat.beq b bW|_=>false
def forkA(x:L):Option (FuncId×List Value×AF):=
 match x.lay,x.s.fr.round,opAt x with
 | [],none,some (ops,i,o,rest,k)=>
  match o.op with
  |.go c=>match c.callee with
   |.value v=>match zX ops x.s.fr o,c.args.toList,x.s.fr.ev v,zta x.s.fr o undef (.reg ops (Nat.succ i) rest::k) with
    |true,[],some (.func (.func fn) first captured),some fr=>match first.toList with
     | []=>some (fn,captured.toList,fr)
     |_::_=>none
    |_,_,_,_=>none
   |_=>none
  |_=>none
 |_,_,_=>none
def allNone:List (Option Value)→Bool
 | []=>true
 |none::l=>allNone l
 |some _::_=>false
def zda(h:AHeap)(bB n:Nat):Bool:=
 match h.objs.get bB with
 |some (.cells c _ r ba m)=>allNone c&&Nat.beq c.length n&&Nat.beq r bB&&Nat.beq ba 0&&(match m with | [b]=>Nat.beq b bB|_=>false)
 |_=>false
def endsOk(p:Tab)(x:L):Bool:=
 match opAt x,x.s.fr.defers,x.s.cs with
 |some (_,_,_,[],[]),[],[c]=>x.s.fr.deferred&&c.ret&&c.deferred&&(match c.defers,c.round with | [],none=>true|_,_=>false)
   && (match p.funcs.get x.s.fr.fn,p.funcs.get c.fn with|some a,some b=>(match a.results.toList,b.results.toList with | [],[]=>true|_,_=>false)|_,_=>false)
 |_,_,_=>false
structure Cfg where
 add:FuncId
 done:FuncId
 wait:FuncId
 bW:Nat
 bB:Nat
 dB:Nat
 bR:Nat
 dR:Nat
 nR:Nat
 n:Nat
 fuel:Nat
def zfc(p:Tab)(pl:T (T (List Phase)))(c:Cfg)(k:Nat)(x:L):Option (List Value):=
 match runTo p pl (zic c.done) c.fuel x with
 |some x=>match zNa p c.done (zjc c.bW) x with
  |some y=>match endsOk p x,y.s.h.read c.bB (Nat.mul 2 k) 2 with
   |true,some vals=>match vals.all (closed 1) with
    |true=>some vals
    |false=>none
   |_,_=>none
  |none=>none
 |none=>none
def startsA(p:Tab)(pl:T (T (List Phase)))(c:Cfg):Nat→Nat→L→Option (List (List Value)×L)
 |0,_,x=>match runTo p pl (zic c.wait) c.fuel x with
  |some x=>match zNa p c.wait (zjc c.bW) x with
   |some y=>some ([],y)
   |none=>none
  |none=>none
 |r+1,k,x=>
  match runTo p pl (zic c.add) c.fuel x with
  |none=>none
  |some x=>match zNa p c.add (argsAdd c.bW) x with
   |none=>none
   |some x=>match runTo p pl goesAt c.fuel x with
    |none=>none
    |some x=>match forkA x,zda x.s.h c.bB (Nat.mul 2 c.n) with
     |some (fn,args,fr),true=>match zIa p fn args true with
      |none=>none
      |some cf=>
       let h:=x.s.h
       match zfc p pl c k ⟨⟨cf,[],{h with lo:=h.next,wl:=[(c.bB,Nat.mul 2 k,2)]}⟩,none,[]⟩ with
       |none=>none
       |some vals=>match startsA p pl c r (Nat.succ k) ⟨{x.s with fr,h:={h with lo:=h.next,wl:=[]}},none,[]⟩ with
        |some (l,y)=>some (vals::l,y)
        |none=>none
     |_,_=>none
def refill(t:T AObj)(b:Nat)(cs:List (Option Value)):T AObj:=
 match t.get b with
 |some (.cells _ u r ba m)=>t.set b (.cells cs u r ba m)
 |_=>t
def blank(t:T AObj)(b:Nat):T AObj:=
 match t.get b with
 |some (.cells c u r ba m)=>t.set b (.cells (c.map fun _=>none) u r ba m)
 |_=>t
def demoteA(c:Cfg)(h:AHeap):AHeap:={objs:=blank (blank (blank h.objs c.bW) c.bB) c.bR,next:=h.next,lo:=h.next,wl:=[],no:=h.no}
def pointsTo(t:T Value)(d b:Nat):Bool:=match t.get d with|some (.pointer (some ⟨b',0,none⟩))=>Nat.beq b' b|_=>false
def zpc(p:Tab)(c:Cfg)(tWg:TypeId)(x:L):Option L:=
 match x.lay,x.s.fr.round,opAt x with
 | [],none,some (ops,i,o,rest,k)=>
  match o.op with
  |.alloc t=>match Nat.beq t tWg&&zX ops x.s.fr o&&Nat.beq x.s.h.next c.bW,p.zero t,zta x.s.fr o (.pointer (some ⟨x.s.h.next,0,none⟩)) (.reg ops (Nat.succ i) rest::k) with
   |true,some z,some fr=>match z.cells.toList with
    | [.int .u64 0,.int .u32 0]=>some ⟨{x.s with fr,h:=x.s.h.row z.cells.toList 0},none,[]⟩
    |_=>none
   |_,_,_=>none
  |_=>none
 |_,_,_=>none
def okVals(n:Nat)(vals:List (List Value)):Bool:=Nat.beq vals.length n&&vals.all fun l=>Nat.beq l.length 2&&l.all (closed 1)
def fillA(c:Cfg)(vals:List (List Value))(h:AHeap):Option AHeap:=
 match zda h c.bB (Nat.mul 2 c.n)&&zda h c.bW 2&&okVals c.n vals with
 |true=>some {objs:=refill h.objs c.bB (vals.flatten.map some),next:=h.next,lo:=0,wl:=[],no:=c.bW}
 |false=>none
def readyA(c:Cfg)(y0:L)(h:AHeap):Bool:=
 zda h c.bB (Nat.mul 2 c.n)&&zda h c.bW 2&&y0.s.h.owns c.bB&&y0.s.h.owns c.bW&&not (Nat.beq c.bB c.bW)&&pointsTo y0.s.fr.tmps c.dB c.bB&&pointsTo y0.s.fr.tmps c.dR c.bR&&zda h c.bR c.nR&&Nat.ble c.n c.nR&&not (Nat.beq c.bR c.bB)&&not (Nat.beq c.bR c.bW)
def startsN(p:Tab)(pl:T (T (List Phase)))(c:Cfg):Nat→Nat→L→Option (List (List Value)×L)
 |0,_,x=>some ([],x)
 |r+1,k,x=>
  match runTo p pl (zic c.add) c.fuel x with
  |none=>none
  |some x=>match zNa p c.add (argsAdd c.bW) x with
   |none=>none
   |some x=>match runTo p pl goesAt c.fuel x with
    |none=>none
    |some x=>match forkA x,zda x.s.h c.bB (Nat.mul 2 c.n) with
     |some (fn,args,fr),true=>match zIa p fn args true with
      |none=>none
      |some cf=>
       let h:=x.s.h
       match zfc p pl c k ⟨⟨cf,[],{h with lo:=h.next,wl:=[(c.bB,Nat.mul 2 k,2)]}⟩,none,[]⟩ with
       |none=>none
       |some vals=>match startsN p pl c r (Nat.succ k) ⟨{x.s with fr,h:={h with lo:=h.next,wl:=[]}},none,[]⟩ with
        |some (l,y)=>some (vals::l,y)
        |none=>none
     |_,_=>none
theorem startsA_split(p:Tab)(pl:T (T (List Phase)))(c:Cfg):∀(j k r:Nat) {x z y:L} {l1 l2:List (List Value)},startsN p pl c j k x=some (l1,z)→startsA p pl c r (k+j) z=some (l2,y)→startsA p pl c (j+r) k x=some (l1++l2,y)
 |0,k,r,x,z,y,l1,l2,h1,h2=>by simp only[startsN] at h1;cases h1;rw[Nat.zero_add];exact h2
 |j+1,k,r,x,z,y,l1,l2,h1,h2=>by
  rw[show j+1+r=(j+r)+1 by omega];simp only[startsN] at h1;simp only[startsA];split at h1
  ·cases h1
  next x1 e1=>
  split at h1
  ·cases h1
  next x2 e2=>
  split at h1
  ·cases h1
  next x3 e3=>
  split at h1
  ·next fn args fr e4 e5=>
   split at h1
   ·cases h1
   next cf e6=>
   split at h1
   ·cases h1
   next vk e7=>
   split at h1
   ·next l' y' e8=>cases h1;have:=startsA_split p pl c j (k+1) r e8 (by rw[show k+1+j=k+(j+1) by omega];exact h2);simp only[e1,e2,e3,e4,e5,e6,e7,this];rfl
   ·cases h1
  ·cases h1
end
section
open Go.Conc (G)
section
variable {p:Tab}{f:Inj}{Mi Sh:Loc→Prop}{main:Bool}{w:World}{bot:List Frame}
theorem XRel.flat{s:S}{g:Goroutine}(h:XRel f Mi Sh bot ⟨s,none,[]⟩ g w):SRel f Mi Sh bot s g w:=by
 cases h with
 |plain hs hB hl=>cases hl;exact hs
theorem SRel.flat{s:S}{g:Goroutine}(h:SRel f Mi Sh bot s g w):XRel f Mi Sh bot ⟨s,none,[]⟩ g w:=.plain h (Nat.le_refl s.h.next) .nil
structure OpAt(f:Inj)(bot:List Frame)(s:S)(ops:Array Oper)(i:Nat)(o:Oper)(rest:List Oper)(k:List AI)(g:Goroutine)(tmps:Array Value)(k':List Item)(defers:List Deferred)(cs:List Frame):Prop where
 g:g=G (realF s.fr tmps (.inRegion ops (List.range' i (o::rest).length)::k') defers none) (cs++bot)
 ret:s.fr.ret=false
 round:s.fr.round=none
 todo:s.fr.todo=.reg ops i (o::rest)::k
 drop:o::rest=ops.toList.drop i
 size:tmps.size=s.fr.nt
 temps:TRel f s.fr.tmps tmps
 k:IsRel f k k'
 defs:DsRel f s.fr.defers defers
 cs:FsRel f s.cs cs
theorem opAt_some{x:L}{ops:Array Oper}{i:Nat}{o:Oper}{rest:List Oper}{k:List AI}(h:opAt x=some (ops,i,o,rest,k)):x.reg=none∧x.s.fr.ret=false∧x.s.fr.todo=.reg ops i (o::rest)::k:=by
 unfold opAt at h;split at h
 ·next e1 e2 e3=>cases h;exact⟨e1,e2,e3⟩
 ·cases h
theorem SRel.opAt{s:S}{g:Goroutine}{ops:Array Oper}{i:Nat}{o:Oper}{rest:List Oper}{k:List AI}(h:SRel f Mi Sh bot s g w)(hret:s.fr.ret=false)(hround:s.fr.round=none)(ht:s.fr.todo=.reg ops i (o::rest)::k) :
  ∃ tmps k' defers cs,OpAt f bot s ops i o rest k g tmps k' defers cs:=by
 obtain⟨tmps,todo,defers,round,cs,rfl,hsz,htr,hk,hd,hro,hcs,hr⟩:=h.out;rw[ht] at hk;cases hk with
 |cons hi hkk=>
  cases hi with
  |reg hdrop=>rw[hround] at hro;cases hro;exact⟨tmps,_,defers,cs,rfl,hret,hround,ht,hdrop,hsz,htr,hkk,hd,hcs⟩
theorem call_step(hp:TabOk p){s:S}{g:Goroutine}{ops:Array Oper}{i:Nat}{o:Oper}{rest:List Oper}{k:List AI}{tmps:Array Value}{k':List Item}{defers:List Deferred}{cs:List Frame}{fn:FuncId}{args:List Value}{h':AHeap}
  (ha:OpAt f bot s ops i o rest k g tmps k' defers cs) (hw:zX ops s.fr o=true) (ea:aop p s.h s.fr.ev o=some (.call fn args h')) (hr:HRel f (fun l=>Mi l∨Sh l) Mi s.h w) :
  ∃ w' es Mi' f' args',stepG p.prog main g w=.go (G (Frame.enter p.prog fn args' .normal) (realF s.fr tmps (.inRegion ops (List.range' i (o::rest).length)::k') defers none::(cs++bot))) w' es∧f.le f'∧Did Mi Sh w w' es Mi' ∧
   VsRel f' args args'.toList∧HRel f' (fun l=>Mi' l∨Sh l) Mi' h' w':=by
 obtain⟨rfl,hret,hround,htodo,hdrop,hsz,ht,hk,hd,hcs⟩:=ha;obtain⟨ho,hrest⟩:=zna hdrop;have hev:=ht.ev (fr:=realF s.fr tmps (.inRegion ops (List.range' i (o::rest).length)::k') defers none) rfl;obtain⟨r',w',f',Mi',h1,h2,h3,h4,h5,h6⟩:=aop_sound (w:=w) hp hr hev ea;have hst:=stepG_at (p:=p) (main:=main) (s:=s) (rest:=rest) (k':=k') (cs:=cs++bot) (w:=w) (defers:=defers) (round:=none) (tmps:=tmps) hret ho (by rw[wanted_rel ht];exact hw) (fun _ _=>rfl);cases h3 with
 |call hv=>rename_i args';refine⟨w',_,Mi',f',args',?_,h2,h4.seen p.prog s.fr.fn,hv,h5⟩;rw[hst,zba (fun _ _ _ _ h=>by cases h) h1 (.inr (.inr (.inl ⟨_,_,rfl⟩)))];simp only[outcome,GStep.after,Array.append_empty]
theorem call_back{s:S}{g:Goroutine}{ops:Array Oper}{i:Nat}{o:Oper}{rest:List Oper}{k:List AI}{tmps:Array Value}{k':List Item}{defers:List Deferred}{cs:List Frame}{fr:AF}{v v':Value}{h':AHeap}
  (ha:OpAt f bot s ops i o rest k g tmps k' defers cs) (hs:zta s.fr o v (.reg ops (Nat.succ i) rest::k)=some fr) {f':Inj} (hf:f.le f') (hv:VRel f' v v') {Mi':Loc→Prop} (hr:HRel f' (fun l=>Mi' l∨Sh l) Mi' h' w) :
  SRel f' Mi' Sh bot {s with fr,h:=h'} (G (realF s.fr (putDst o.dst tmps v') (.inRegion ops (List.range' (i+1) rest.length)::k') defers none) (cs++bot)) w:=by
 obtain⟨rfl,hret,hround,htodo,hdrop,hsz,ht,hk,hd,hcs⟩:=ha;obtain⟨ho,hrest⟩:=zna hdrop;obtain⟨q1,q2,q3,q4⟩:=zCa (f:=f') hs hv hsz (ht.mono hf) (k':=.inRegion ops (List.range' (i+1) rest.length)::k') (defers:=defers) (round:=none) (.cons (.reg hrest) (hk.mono hf)) (hd.mono hf) (by rw[hround];exact .none);exact⟨⟨_,cs,rfl,q1,hcs.mono hf⟩,hr⟩
theorem realF_at{a:AF}{tmps:Array Value}{todo:List Item}{defers:List Deferred}(hret:a.ret=false)(tmps0:Array Value)(todo0:List Item)(defers0:List Deferred) :
  realF a tmps todo defers none=(realF a tmps0 todo0 defers0 none).at ⟨tmps,defers⟩ todo:=by
 simp[realF,Frame.at,hret]
theorem put_eq(dst:Option Tmp)(tmps:Array Value)(defers:List Deferred)(v:Value):(Act.put ⟨tmps,defers⟩ dst v)=⟨putDst dst tmps v,defers⟩:=by cases dst<;>rfl
theorem alloc_step(hp:TabOk p){s s':S}{g:Goroutine}{ops:Array Oper}{i:Nat}{o:Oper}{rest:List Oper}{k:List AI}{tmps:Array Value}{k':List Item}{defers:List Deferred}{cs:List Frame}{ty:TypeId}{z:Value}{fr:AF}
  (ha:OpAt f bot s ops i o rest k g tmps k' defers cs) (hw:zX ops s.fr o=true) (eo:o.op=.alloc ty) (ez:p.zero ty=some z)
  (hs:zta s.fr o (.pointer (some ⟨s.h.next,0,none⟩)) (.reg ops (Nat.succ i) rest::k)=some fr) (hr:HRel f (fun l=>Mi l∨Sh l) Mi s.h w) :
  ∃ g',stepG p.prog main g w=.go g' (zF w (.cells z.cells ty (0,0))) #[] ∧
   f.le (f.put s.h.next ⟨w.heap.size,0,0,z.cells.size⟩)∧Did Mi Sh w (zF w (.cells z.cells ty (0,0))) #[] (fun l=>Mi l∨NewIn w.heap.size (w.heap.size+1) l) ∧
   SRel (f.put s.h.next ⟨w.heap.size,0,0,z.cells.size⟩) (fun l=>Mi l∨NewIn w.heap.size (w.heap.size+1) l) Sh bot {s with fr,h:=s.h.row z.cells.toList 0} g' (zF w (.cells z.cells ty (0,0))):=by
 have hz:=(zB (f:=f) _ _ (zaa ez).1).cells;obtain⟨w',r1,r2,r3,r4⟩:=newRow_sound (Sh:=Sh) hr p.prog ty hz 0;have hw':w'=zF w (.cells z.cells ty (0,0)):=by have:(newRow ty z.cells).run p.prog w=.ok ⟨w.heap.size,0,none⟩ (zF w (.cells z.cells ty (0,0))):=rfl;rw[this] at r1;cases r1;rfl
 subst hw';have hrun:(execOp (realF s.fr tmps (.inRegion ops (List.range' i (o::rest).length)::k') defers none).eval o).run p.prog w=.ok (.value (.pointer (some ⟨w.heap.size,0,none⟩))) (zF w (.cells z.cells ty (0,0))):=by simp only[execOp,eo,Instr.alloc,Sem.run_bind,zk hp w ez,Result.andThen_ok,newVar,r1,Sem.run_pure]
 have hevs:(execOp (realF s.fr tmps (.inRegion ops (List.range' i (o::rest).length)::k') defers none).eval o).events p.prog w #[]=#[]:=by simp only[execOp,eo,Instr.alloc,Sem.events_bind,Sem.run_bind,zk hp w ez,events_zeroValue,Result.evThen_ok,Result.andThen_ok,newVar,r1,r2,Sem.run_pure,Sem.events_pure]
 have hst:=stepG_at (p:=p) (main:=main) (s:=s) (rest:=rest) (k':=k') (cs:=cs++bot) (w:=w) (defers:=defers) (round:=none) (tmps:=tmps) ha.ret (zna ha.drop).1 (by rw[wanted_rel ha.temps];exact hw) (fun _ _=>rfl);refine⟨_,?_,zQb hr _,r3,call_back ha hs (zQb hr _) (v':=.pointer (some ⟨w.heap.size,0,none⟩)) (.ptr (Inj.put_same _ _ _)) r4⟩;rw[ha.g,hst,zba (fun _ _ _ _ h=>by cases h) hrun (.inl ⟨_,rfl⟩),hevs];simp only[outcome,finish_at (zna ha.drop).1,GStep.after];simp[seen]
end
end
end Go.Cx
