/- Ground of proofs about package arrow: it says nothing by itself, without a condition. -/
import Derived.Test.YtpdmgecbapmgdaaGreatCx8
import Derived.Conc.Own
import Derived.CallsIn
import Derived.Conc.Fork
import Derived.Test.YtpdmgecbapmgdaaGreatCx7
import Derived.Below
set_option linter.unusedSectionVars false
set_option linter.unusedSimpArgs false
set_option linter.unusedVariables false
namespace Go.Cx
section
open Go.Conc
section
variable {p:Program}{B:Floor}{w v:World}{F:FuncId→Prop}
structure FnOk(p:Program)(f:FuncId)(fn:Func)(c:Code):Prop where
 at_:p.funcs[f]? = some fn
 name:(fn.name == "runtime.NumGoroutine")=false
 body:fn.body=some c
 code:codeOk p c=true
 ini:p.inits.idxOf? f=none
def zfa(p:Program)(F:FuncId→Prop):Prop:=∀ f,F f→∃ fn c,FnOk p f fn c
theorem zfa.fnIn(h:zfa p F):∀ f,F f→FnIn p f:=fun f hf=>by obtain⟨fn,c,hk⟩:=h f hf;exact⟨fn,hk.at_,hk.name,by rw[hk.body];rfl⟩
def Marks(ds:List Deferred):Prop:=∀ d∈ds,∃ r,d={target:=.collected r,args:=#[]}
structure FrIn(p:Program)(F:FuncId→Prop)(fr:Frame):Prop where
 fn:F fr.fn
 df:Marks fr.defers
 kd:fr.kind=.normal
 td:∀ it∈fr.todo,itemOk p it=true
def Under(p:Program)(F:FuncId→Prop)(cs:List Frame):Prop:=∀ c∈cs,FrIn p F c∧c.mode=.run
def Fine(p:Program)(F:FuncId→Prop)(g:Goroutine):Prop:=∃ fr cs,g=G fr cs∧FrIn p F fr∧(fr.mode=.run∨fr.mode=.returning)∧Under p F cs
def Pan(p:Program)(F:FuncId→Prop)(g:Goroutine):Prop:=∃ fr cs chain,g=G fr cs∧fr.mode=.panicking chain∧(chain.head?.any (·.goexit))=false∧Marks fr.defers∧F fr.fn∧Under p F cs
def zmb(p:Program)(F:FuncId→Prop)(B:Floor)(x y:GStep):Prop:=
 match x with
 |.ended _ _ _=>True
 |.go g1 v1 es=>(Pan p F g1∧zza v1)∨(Fine p F g1∧OkEvs es∧∃ w1,y=.go g1 w1 es∧Twin B w1 v1)
 |_=>False
def zE(p:Program)(F:FuncId→Prop)(B:Floor)(g:Goroutine)(v w:World):Prop:=zmb p F B (stepG p true g v) (stepG p true g w)
theorem zmb.after{x y:GStep}{es:Array Event}(h:zmb p F B x y)(he:OkEvs es):zmb p F B (GStep.after es x) (GStep.after es y):=by
 unfold zmb at h ⊢;cases x with
 |go g1 v1 es1=>
  rcases h with h|⟨h1,h2,w1,rfl,h4⟩
  ·exact .inl h
  ·exact .inr ⟨h1,he.append h2,w1,rfl,h4⟩
 |ended o v1 es1=>exact trivial
 |_=>exact h.elim
theorem zE.still{g g1:Goroutine}(h:∀ x,stepG p true g x=.go g1 x #[])(hf:Fine p F g1)(ht:Twin B w v):zE p F B g v w:=by unfold zE zmb;rw[h v];exact .inr ⟨hf,(fun e he=>by simp at he),w,h w,ht⟩
theorem zE.over{g:Goroutine}{o:Outcome}{v1:World}{es:Array Event}(h:stepG p true g v=.ended o v1 es):zE p F B g v w:=by unfold zE zmb;rw[h];trivial
theorem zE.over_{g:Goroutine}(h:∃ o v1 es,stepG p true g v=.ended o v1 es):zE p F B g v w:=by obtain⟨_,_,_,h⟩:=h;exact zE.over h
theorem exitTo_ok{id:Nat}:∀{k k':List Item},exitTo id k=some k'→(∀ it∈k,itemOk p it=true)→∀ it∈k',itemOk p it=true
  | [],k',h,hk=>by simp[exitTo] at h
  |x::k,k',h,hk=>by
    have hk':∀ it∈k,itemOk p it=true:=fun it hi=>hk it (List.mem_cons_of_mem _ hi)
    cases x<;>simp only[exitTo] at h<;>first
      |exact exitTo_ok h hk'
      | (split at h
         · cases h;exact hk'
         · exact exitTo_ok h hk')
theorem FrIn.finish{fr:Frame}(h:FrIn p F fr)(x:Value):FrIn p F (fr.finish x):=by
 obtain⟨fn,tmps,todo,defers,mode,kind,ro⟩:=fr;obtain⟨h1,h3,h4,h5⟩:=h;unfold Frame.finish;cases todo with
 |nil=>exact⟨h1,h3,h4,h5⟩
 |cons it k=>
  have hk:∀ it∈k,itemOk p it=true:=fun it hit=>h5 _ (List.mem_cons_of_mem _ hit)
  cases it with
  |inRegion ops l=>
   cases l with
   |nil=>exact⟨h1,h3,h4,h5⟩
   |cons i rest=>
    refine⟨h1,h3,h4,fun it hit=>?_⟩;rcases List.mem_cons.1 hit with rfl|hit
    ·have:=h5 _ (List.mem_cons_self ..);simpa[itemOk] using this
    ·exact h5 _ (List.mem_cons_of_mem _ hit)
  |code c=>exact⟨h1,h3,h4,h5⟩
  |inBlock i=>exact⟨h1,h3,h4,h5⟩
  |inLoop c=>exact⟨h1,h3,h4,h5⟩
  |inScope c=>exact⟨h1,h3,h4,h5⟩
  |endRangeFunc l=>exact⟨h1,h3,h4,h5⟩
  |inRangeFunc l=>exact⟨h1,h3,h4,fun it hit=>(List.mem_cons.1 hit).elim (fun e=>e▸rfl) (hk it)⟩
  |beginRound=>exact⟨h1,h3,h4,hk⟩
  |_=>exact absurd (h5 _ (List.mem_cons_self ..)) (by simp[itemOk])
theorem finish_mode(fr:Frame)(x:Value):(fr.finish x).mode=fr.mode:=by unfold Frame.finish;split<;>rfl
theorem frIn_enter(hF:zfa p F){f:FuncId}(hf:F f)(args:Array Value):FrIn p F (Frame.enter p f args .normal):=by obtain⟨fn,c,hk⟩:=hF f hf;refine⟨hf,(fun d hd=>by cases hd),rfl,fun it hit=>?_⟩;simp only[Frame.enter,hk.at_,Option.bind_some,hk.body,Option.getD_some,List.mem_singleton] at hit;subst hit;exact hk.code
theorem frIn_round{l:Nat}{f:FuncId}{tmps:Array Value}{a b:Code}(h:F f∧codeOk p a=true∧codeOk p b=true):FrIn p F (Frame.round l f tmps a b .normal):=by
 refine⟨h.1,(fun d hd=>by cases hd),rfl,fun it hit=>?_⟩;simp only[Frame.round,List.mem_cons,List.not_mem_nil,or_false] at hit;rcases hit with rfl|rfl|rfl
 ·exact h.2.1
 ·rfl
 ·exact h.2.2
theorem apply_to(hF:zfa p F){fr:Frame}{cs:List Frame}(hfr:FrIn p F fr)(hm:fr.mode=.run)(hcs:Under p F cs)(hto:∃ it k,fr.todo=it::k∧itemOk p it=true)
  {s:Sem Next} (hP:Par B (zla p F) (s.runT p v #[]) (s.runT p w #[])):zmb p F B (stepG.apply p true fr cs none s v) (stepG.apply p true fr cs none s w):=by
 obtain⟨it,k,hto,hit⟩:=hto;have hkind:(match fr.todo with|.call _ true _ _::_=>CallKind.wrapped|_=>.normal)=.normal:=by rw[hto];cases it<;>first|rfl|cases hit
 have hke:(fr.kind==CallKind.early)=false:=by rw[hfr.kd];rfl
 unfold zmb;unfold Par at hP;cases hr:s.runT p v #[] with
 |mk r es1=>
  rw[hr] at hP;cases r with
  |halt x v1=>
   cases x with
   |panic y=>
    simp only[stepG.apply,if_true,hr,hke,GStep.after];refine .inl ⟨⟨fr.raise [{v:=y,recovered:=false}],cs,[{v:=y,recovered:=false}],rfl,?_,rfl,?_,?_,hcs⟩,hP.2⟩
    ·unfold Frame.raise;rw[hm]
    ·unfold Frame.raise;rw[hm];exact hfr.df
    ·unfold Frame.raise;rw[hm];exact hfr.fn
   |stuck y=>simp only[stepG.apply,if_true,hr,hke,GStep.after]
   |unsupported u=>
    have hu:∀ g,u≠.initOrder g:=hP.1;cases u<;>first
     |exact absurd rfl (hu _)
     |simp only[stepG.apply,if_true,hr,hke,GStep.after]
   |_=>exact hP.1.elim
  |ok nx v1=>
   obtain⟨hq,he,w1,ew,ht⟩:=hP;cases nx with
   |value x=>simp only[stepG.apply,if_true,hr,ew,hke,GStep.after,Bool.false_eq_true,if_false];exact .inr ⟨⟨fr.finish x,cs,rfl,hfr.finish x,by rw[finish_mode];exact .inl hm,hcs⟩,by simpa using zCb he,w1,rfl,ht⟩
   |skip=>simp only[stepG.apply,if_true,hr,ew,hke,GStep.after,Bool.false_eq_true,if_false];exact .inr ⟨⟨fr.finish undef,cs,rfl,hfr.finish undef,by rw[finish_mode];exact .inl hm,hcs⟩,by simpa using zCb he,w1,rfl,ht⟩
   |enter f args=>
    simp only[stepG.apply,if_true,hr,ew,hke,GStep.after,Bool.false_eq_true,if_false,hkind];refine .inr ⟨⟨Frame.enter p f args .normal,fr::cs,by first|rfl|(rw[hto];cases it<;>first|rfl|cases hit),frIn_enter hF hq args,.inl rfl,fun c hc=>?_⟩,by simpa using zCb he,w1,by first|rfl|(rw[hto];cases it<;>first|rfl|cases hit),ht⟩;rcases List.mem_cons.1 hc with rfl|hc
    ·exact⟨hfr,hm⟩
    ·exact hcs c hc
   |round l f tmps a b=>
    simp only[stepG.apply,if_true,hr,ew,hke,GStep.after,Bool.false_eq_true,if_false];refine .inr ⟨⟨Frame.round l f tmps a b .normal,fr::cs,rfl,frIn_round hq,.inl rfl,fun c hc=>?_⟩,by simpa using zCb he,w1,rfl,ht⟩;rcases List.mem_cons.1 hc with rfl|hc
    ·exact⟨hfr,hm⟩
    ·exact hcs c hc
   |_=>exact hq.elim
theorem apply_calm(hF:zfa p F){fr:Frame}{cs:List Frame}(hfr:FrIn p F fr)(hm:fr.mode=.run)(hcs:Under p F cs)(hto:∃ it k,fr.todo=it::k∧itemOk p it=true)
  {s:Sem Next} (hP:Par B (zla p F) (s.runT p v #[]) (s.runT p w #[]))
  (hv:stepG p true (G fr cs) v=stepG.apply p true fr cs none s v) (hw:stepG p true (G fr cs) w=stepG.apply p true fr cs none s w):zE p F B (G fr cs) v w:=by
 unfold zE;rw[hv,hw];exact apply_to hF hfr hm hcs hto hP
theorem step_back(hF:zfa p F){fr:Frame}{cs:List Frame}(hfr:FrIn p F fr)(hcs:Under p F cs){s:Sem Value}{hh:Halt→World→GStep}(hhe:∀ h x,∃ o x' es,hh h x=.ended o x' es)
  (hP:Par B (fun _=>True) (s.runT p v #[]) (s.runT p w #[]))
  (e0:∀ x:World,stepG p true (G fr cs) x=GStep.after (seen p fr.fn (s.runT p x #[]).2) (match (s.runT p x #[]).1 with
   |.ok y x'=>doReturn p true fr cs none y x'
   |.halt h x'=>hh h x')):zE p F B (G fr cs) v w:=by
 obtain⟨fn,c,hk⟩:=hF _ hfr.fn;unfold zE;rw[e0 v,e0 w];unfold Par at hP;cases hr:s.runT p v #[] with
 |mk r es1=>
  rw[hr] at hP;cases r with
  |halt x v1=>obtain⟨o,x',es,h1⟩:=hhe x v1;simp only[h1];exact trivial
  |ok y v1=>
   obtain⟨_,he,w1,ew,ht1⟩:=hP;rw[ew];cases cs with
   |nil=>
    have e1:∀ z:World,doReturn p true fr [] none y z=.ended (.done y) z:=fun z=>by simp[doReturn,hfr.kd,hk.ini]
    simp only[e1];exact trivial
   |cons c rest=>
    have e1:∀ z:World,doReturn p true fr (c::rest) none y z=.go (G (c.finish y) rest) z #[]:=fun z=>by simp[doReturn,hfr.kd,G]
    simp only[e1,GStep.after];obtain⟨h1,h2⟩:=hcs c (List.mem_cons_self ..);exact .inr ⟨⟨_,rest,rfl,h1.finish y,.inl (by rw[finish_mode];exact h2),fun d hd=>hcs d (List.mem_cons_of_mem _ hd)⟩,by simpa using zCb he,w1,rfl,ht1⟩
end
end
section
section
variable {p:Program}{B:Floor}{w v:World}{F:FuncId→Prop}{es:Array Event}
theorem par_newLoop{r:Loop}(hg:B.good r)(ht:Twin B w v)(he:OkEvs es):Par B (fun _=>True) ((newObj (.loop r)).runT p v es) ((newObj (.loop r)).runT p w es):=by simp only[newObj,Sem.runT,ht.size];exact⟨trivial,he,_,rfl,ht.push (fun _=>⟨r,rfl,hg⟩) (fun e=>by cases e)⟩
theorem par_enterLoop(hB:∀ l,B.good l↔zka p F l){fn:FuncId}{tmps:Array Value}{ps:Array Tmp}{a b:Code}{ro:Option Nat}(hf:F fn)(ha:codeOk p a=true)(hb:codeOk p b=true)(ht:Twin B w v)(he:OkEvs es) :
  Par B (fun x=>Marks x.2) ((Instr.enterLoop fn tmps ps a b ro).runT p v es) ((Instr.enterLoop fn tmps ps a b ro).runT p w es):=by
 have hg:∀ d,B.good {state:=.ready,pending:=none,fn,tmps,params:=ps,assign:=a,body:=b,defers:=d}:=fun d=>(hB _).2 ⟨hf,ha,hb,fun c h=>by cases h⟩
 unfold Instr.enterLoop;have fin:∀{x:Nat×List Deferred} {v1 w1:World} {es1:Array Event},Marks x.2→OkEvs es1→Twin B w1 v1 →
   Par B (fun x=>Marks x.2) ((do pure (←newObj (.loop {state:=.ready,pending:=none,fn,tmps,params:=ps,assign:=a,body:=b,defers:=x.1}),x.2):Sem (Nat×List Deferred)).runT p v1 es1)
    ((do pure (←newObj (.loop {state:=.ready,pending:=none,fn,tmps,params:=ps,assign:=a,body:=b,defers:=x.1}),x.2):Sem (Nat×List Deferred)).runT p w1 es1):=by
  intro x v1 w1 es1 hx he1 ht1;refine Par.bind (par_newLoop (hg _) ht1 he1) fun y v2 w2 es2 _ _ he2 ht2=>?_
  exact⟨hx,he2,w2,rfl,ht2⟩
 cases ro with
 |none=>
  refine Par.bind (Q:=fun _=>True) (zq (s:=newObj (.deferred (some []))) ⟨id,(fun h=>by cases h),fun r=>trivial⟩ ht he) fun r v1 w1 es1 _ _ he1 ht1=>?_
  exact fin (x:=(r,[{target:=.collected r,args:=#[]}])) (fun d hd=>⟨r,List.mem_singleton.1 hd⟩) he1 ht1
 |some l=>
  refine Par.bind (zSa ht he) fun r v1 w1 es1 _ _ he1 ht1=>?_
  exact fin (x:=(r.defers,[])) (fun d hd=>by cases hd) he1 ht1
theorem par_beginRound(hB:∀ l,B.good l↔zka p F l){l:Nat}(ht:Twin B w v)(he:OkEvs es):Par B (fun _=>True) ((Instr.beginRound l).runT p v es) ((Instr.beginRound l).runT p w es):=by
 unfold Instr.beginRound;refine Par.bind (zSa ht he) fun r v1 w1 es1 _ hg he1 ht1=>?_
 refine Par.bind (par_setLoop ((hB _).2 ((hB r).1 hg)) ht1 he1) fun x v2 w2 es2 _ _ he2 ht2=>?_
 refine zq ?_ ht2 he2;split
 ·exact trivial
 ·exact zj _
 ·exact zj _
 ·exact zj _
theorem par_endRound(hB:∀ l,B.good l↔zka p F l){l:Nat}{jump:Option Code}(hj:∀ c,jump=some c→codeOk p c=true)(ht:Twin B w v)(he:OkEvs es):Par B (fun _=>True) ((Instr.endRound l jump).runT p v es) ((Instr.endRound l jump).runT p w es):=by
 unfold Instr.endRound;refine Par.bind (zSa ht he) fun r v1 w1 es1 _ hg he1 ht1=>?_
 obtain⟨h1,h2,h3,h4⟩:=(hB r).1 hg;refine Par.bind (par_setLoop ((hB _).2 ⟨h1,h2,h3,hj⟩) ht1 he1) fun x v2 w2 es2 _ _ he2 ht2=>?_
 exact⟨trivial,he2,w2,rfl,ht2⟩
theorem par_endLoop(hB:∀ l,B.good l↔zka p F l){l:Nat}(ht:Twin B w v)(he:OkEvs es):Par B (fun j=>∀ c,j=some c→codeOk p c=true) ((Instr.endLoop l).runT p v es) ((Instr.endLoop l).runT p w es):=by
 unfold Instr.endLoop;refine Par.bind (zSa ht he) fun r v1 w1 es1 _ hg he1 ht1=>?_
 have hg':=(hB r).1 hg;have fin:∀{v1 w1:World} {es1:Array Event},OkEvs es1→Twin B w1 v1→Par B (fun j=>∀ c,j=some c→codeOk p c=true) ((do setObj l (.loop {r with state:=.exhausted});pure r.pending:Sem (Option Code)).runT p v1 es1) ((do setObj l (.loop {r with state:=.exhausted});pure r.pending:Sem (Option Code)).runT p w1 es1):=by
  intro v1 w1 es1 he1 ht1;refine Par.bind (par_setLoop ((hB _).2 hg') ht1 he1) fun x v2 w2 es2 _ _ he2 ht2=>?_
  exact⟨hg'.2.2.2,he2,w2,rfl,ht2⟩
 split
 ·refine Par.bind (Q:=fun _=>True) (zq (zj _) ht1 he1) fun x v2 w2 es2 _ _ he2 ht2=>?_
  exact fin he2 ht2
 ·exact fin he1 ht1
theorem calm_takeDeferred(r:Nat):calm p (fun ds=>ds=[]) (Instr.takeDeferred r):=by
 unfold Instr.takeDeferred;refine zpa (fun o ho=>?_) (.inl ⟨fun _=>trivial,trivial⟩);cases o with
 |deferred c=>
  cases c with
  |none=>exact trivial
  |some ds=>
   cases ds with
   |nil=>exact⟨trivial,rfl⟩
   |cons d ds=>exact absurd trivial ho
 |_=>exact trivial
end
end
section
open Go.Conc
section
variable {p:Program}{B:Floor}{w v:World}{F:FuncId→Prop}
theorem zua{x:Item}{k:List Item}(h:itemOk p x=true)(hk:∀ it∈k,itemOk p it=true):∀ it∈x::k,itemOk p it=true:=
 fun it hi=>(List.mem_cons.1 hi).elim (fun e=>e▸h) (hk it)
theorem step_leave(hB:∀ l,B.good l↔zka p F l)(hF:zfa p F){fn:FuncId}{tmps:Array Value}{todo:List Item}{ds:List Deferred}{ro:Option Nat}{cs:List Frame}{jump:Option Code}(hj:∀ c,jump=some c→codeOk p c=true)
  (hret:jump=none∨jump=some .ret∨ro=none→ro=none→jump=none∨jump=some .ret∨∃ o v1 es,stepG p true (G ⟨fn,tmps,todo,ds,.run,.normal,ro⟩ cs) v=.ended o v1 es)
  (hfr:FrIn p F ⟨fn,tmps,todo,ds,.run,.normal,ro⟩) (hcs:Under p F cs) (ht:Twin B w v)
  (h0:ro=none→(jump=none∨jump=some .ret)→∀ x,stepG p true (G ⟨fn,tmps,todo,ds,.run,.normal,ro⟩ cs) x=.go (G ⟨fn,tmps,todo,ds,.returning,.normal,ro⟩ cs) x #[])
  (h1:∀ l,ro=some l→∀ x,stepG p true (G ⟨fn,tmps,todo,ds,.run,.normal,ro⟩ cs) x=GStep.after (seen p fn ((Instr.endRound l jump).runT p x #[]).2) (match ((Instr.endRound l jump).runT p x #[]).1 with
   |.ok y x'=>doReturn p true ⟨fn,tmps,todo,ds,.run,.normal,ro⟩ cs none y x'
   |.halt _ x'=>.ended (.stuck "range over a function: no such loop" (Frame.pos p ⟨fn,tmps,todo,ds,.run,.normal,ro⟩)) x')):zE p F B (G ⟨fn,tmps,todo,ds,.run,.normal,ro⟩ cs) v w:=by
 cases ro with
 |none=>
  have:=hret (.inr (.inr rfl)) rfl;by_cases hjr:jump=none∨jump=some .ret
  ·exact zE.still (h0 rfl hjr) ⟨_,cs,rfl,⟨hfr.fn,hfr.df,rfl,hfr.td⟩,.inr rfl,hcs⟩ ht
  ·rcases this with h|h|h
   ·exact absurd (.inl h) hjr
   ·exact absurd (.inr h) hjr
   ·exact zE.over_ h
 |some l=>
  exact step_back (hh:=fun _ x'=>.ended (.stuck "range over a function: no such loop" (Frame.pos p ⟨fn,tmps,todo,ds,.run,.normal,some l⟩)) x') hF hfr hcs (fun _ x=>⟨_,_,_,rfl⟩)
   (par_endRound hB hj ht (fun e he=>by simp at he)) (h1 l rfl)
theorem step_run(hB:∀ l,B.good l↔zka p F l)(hF:zfa p F){fn:FuncId}{tmps:Array Value}{todo:List Item}{ds:List Deferred}{ro:Option Nat}{cs:List Frame}(hfr:FrIn p F ⟨fn,tmps,todo,ds,.run,.normal,ro⟩)(hcs:Under p F cs)
  (hab:∀ f,Frame.about p v ⟨fn,tmps,todo,ds,.run,.normal,ro⟩=some f→F f) (ht:Twin B w v):zE p F B (G ⟨fn,tmps,todo,ds,.run,.normal,ro⟩ cs) v w:=by
 have hfn:=hfr.fn;have htd:=hfr.td;have hds:Marks ds:=hfr.df;have to:∀ k:List Item,(∀ it∈k,itemOk p it=true)→Fine p F (G ⟨fn,tmps,k,ds,.run,.normal,ro⟩ cs):=fun k hk=>⟨_,cs,rfl,⟨hfn,hds,rfl,hk⟩,.inl rfl,hcs⟩
 cases todo with
 |nil=>
  refine step_leave hB hF (jump:=none) (fun c h=>by cases h) (fun _ _=>.inl rfl) hfr hcs ht (fun h _ x=>?_) (fun l h x=>?_)
  ·subst h;simp[G,stepG,stepG.exec]
  ·subst h;simp only[G,stepG,stepG.exec];rfl
 |cons it k=>
  have hk:∀ it∈k,itemOk p it=true:=fun it hi=>htd it (List.mem_cons_of_mem _ hi)
  have h0:itemOk p it=true:=htd it (List.mem_cons_self ..);cases it with
  |inBlock i=>exact zE.still (g1:=G ⟨fn,tmps,k,ds,.run,.normal,ro⟩ cs) (fun x=>by simp[G,stepG,stepG.exec]) (to k hk) ht
  |inScope c=>exact zE.still (g1:=G ⟨fn,tmps,k,ds,.run,.normal,ro⟩ cs) (fun x=>by simp[G,stepG,stepG.exec]) (to k hk) ht
  |inLoop c=>
   exact zE.still (g1:=G ⟨fn,tmps,.code c::.inLoop c::k,ds,.run,.normal,ro⟩ cs) (fun x=>by simp[G,stepG,stepG.exec])
    (to _ (zua h0 (zua h0 hk))) ht
  |code c=>
   cases c with
   |skip=>exact zE.still (g1:=G ⟨fn,tmps,k,ds,.run,.normal,ro⟩ cs) (fun x=>by simp[G,stepG,stepG.exec]) (to k hk) ht
   |label l=>exact zE.still (g1:=G ⟨fn,tmps,k,ds,.run,.normal,ro⟩ cs) (fun x=>by simp[G,stepG,stepG.exec]) (to k hk) ht
   |ret=>
    refine step_leave hB hF (jump:=some .ret) (fun c h=>by cases h;rfl) (fun _ _=>.inr (.inl rfl)) hfr hcs ht (fun h _ x=>?_) (fun l h x=>?_)
    ·subst h;simp[G,stepG,stepG.exec]
    ·subst h;simp only[G,stepG,stepG.exec];rfl
   |exit id=>
    cases he:exitTo id k with
    |some k'=>exact zE.still (g1:=G ⟨fn,tmps,k',ds,.run,.normal,ro⟩ cs) (fun x=>by simp[G,stepG,stepG.exec,he]) (to k' (exitTo_ok he hk)) ht
    |none=>
     refine step_leave hB hF (jump:=some (.exit id)) (fun c h=>by cases h;rfl) (fun _ h=>.inr (.inr ?_)) hfr hcs ht (fun h hj x=>?_) (fun l h x=>?_)
     ·subst h;simp[G,stepG,stepG.exec,he]
     ·rcases hj with h|h<;>cases h
     ·subst h;simp only[G,stepG,stepG.exec,he,Option.elim_none];rfl
   |seq a b=>
    have h1:codeOk p a=true∧codeOk p b=true:=by simpa[itemOk,codeOk] using h0
    exact zE.still (g1:=G ⟨fn,tmps,.code a::.code b::k,ds,.run,.normal,ro⟩ cs) (fun x=>by simp[G,stepG,stepG.exec])
     (to _ (zua h1.1 (zua h1.2 hk))) ht
   |cond c a b=>
    have h1:codeOk p a=true∧codeOk p b=true:=by simpa[itemOk,codeOk] using h0
    by_cases hb:∃ t,Frame.eval ⟨fn,tmps,.code (.cond c a b)::k,ds,.run,.normal,ro⟩ c=.bool t
    ·obtain⟨t,hb⟩:=hb;exact zE.still (g1:=G ⟨fn,tmps,.code (if t then a else b)::k,ds,.run,.normal,ro⟩ cs) (fun x=>by simp[G,stepG,stepG.exec,hb])
      (to _ (zua (x:=.code (if t then a else b)) (by cases t<;>first|exact h1.1|exact h1.2) hk)) ht
    ·refine zE.over_ ?_;simp only[G,stepG,stepG.exec];split
     ·next t h=>exact absurd ⟨t,h⟩ hb
     ·exact⟨_,_,_,rfl⟩
   |block id c=>
    exact zE.still (g1:=G ⟨fn,tmps,.code c::.inBlock id::k,ds,.run,.normal,ro⟩ cs) (fun x=>by simp[G,stepG,stepG.exec])
     (to _ (zua h0 (zua rfl hk))) ht
   |loop c=>
    exact zE.still (g1:=G ⟨fn,tmps,.code c::.inLoop c::k,ds,.run,.normal,ro⟩ cs) (fun x=>by simp[G,stepG,stepG.exec])
     (to _ (zua h0 (zua h0 hk))) ht
   |scope c=>
    exact zE.still (g1:=G ⟨fn,tmps,.code c::.inScope c::k,ds,.run,.normal,ro⟩ cs) (fun x=>by simp[G,stepG,stepG.exec])
     (to _ (zua h0 (zua h0 hk))) ht
   |region id ops dr=>
    cases dr with
    |false=>
     exact zE.still (g1:=G ⟨fn,tmps,.inRegion ops (List.range ops.size)::k,ds,.run,.normal,ro⟩ cs) (fun x=>by simp[G,stepG,stepG.exec])
      (to _ (zua h0 hk)) ht
    |true=>
     have hc:=calm_run (B:=B) (Q:=fun _=>True) (p:=p) (choose (.order fn id)) w v #[] (zC _) ht (fun e he=>by simp at he);have e1:∀ x:World,(choose (.order fn id)).run p x=.ok (Question.cut (.order fn id) (x.tape x.drawn (.order fn id))) {x with drawn:=x.drawn+1}:=fun x=>by simp[choose,Sem.run,Question.forced]
     unfold zE;have e2:∀ x:World,stepG p true (G ⟨fn,tmps,.code (.region id ops true)::k,ds,.run,.normal,ro⟩ cs) x =
       .go (G ⟨fn,tmps,.inRegion ops (Region.schedule (p.follows .mixedOrders) ops (Question.cut (.order fn id) (x.tape x.drawn (.order fn id))))::k,ds,.run,.normal,ro⟩ cs) {x with drawn:=x.drawn+1} #[]:=fun x=>by
      simp only[G,stepG,stepG.exec,Bool.not_true,Bool.false_eq_true,if_false,e1]
     rw[e2 v];refine .inr ⟨to _ (zua h0 hk),(fun e he=>by simp at he),{w with drawn:=w.drawn+1},?_,ht.draw⟩;rw[e2 w,ht.tape,ht.drawn]
   |rangeFunc f ps a b=>
    have h1:codeOk p a=true∧codeOk p b=true:=by simpa[itemOk,codeOk] using h0
    have hP:=par_enterLoop (p:=p) (B:=B) (es:=#[]) (fn:=fn) (tmps:=tmps) (ps:=ps) (ro:=ro) hB hfn h1.1 h1.2 ht (fun e he=>by simp at he);obtain⟨q,e0⟩:∃ q:String,∀ x:World,stepG p true (G ⟨fn,tmps,.code (.rangeFunc f ps a b)::k,ds,.run,.normal,ro⟩ cs) x=GStep.after (seen p fn ((Instr.enterLoop fn tmps ps a b ro).runT p x #[]).2) (match ((Instr.enterLoop fn tmps ps a b ro).runT p x #[]).1 with
     |.ok (l,mark) x'=>stepG.apply p true ⟨fn,tmps,.inRangeFunc l::k,mark++ds,.run,.normal,ro⟩ cs none (do let d ←resolve (Frame.eval ⟨fn,tmps,.inRangeFunc l::k,mark++ds,.run,.normal,ro⟩) {callee:=.value f,args:=#[.const (.func (.yield l) #[] #[])],argTypes:=#[]} 0;invoke d.target d.args) x'
     |.halt _ x'=>.ended (.stuck "range over a function: no such loop" q) x'):=by
     apply Exists.intro;intro x;simp only[G,stepG,stepG.exec];rfl
    unfold zE;rw[e0 v,e0 w];unfold Par at hP;cases hr:(Instr.enterLoop fn tmps ps a b ro).runT p v #[] with
    |mk r es1=>
     rw[hr] at hP;cases r with
     |halt x v1=>exact trivial
     |ok y v1=>
      obtain⟨l,mark⟩:=y;obtain⟨hm,he,w1,ew,ht1⟩:=hP;rw[ew];refine zmb.after ?_ (zCb he);have hev:Frame.eval ⟨fn,tmps,.inRangeFunc l::k,mark++ds,.run,.normal,ro⟩=Frame.eval ⟨fn,tmps,.code (.rangeFunc f ps a b)::k,ds,.run,.normal,ro⟩:=by funext o;cases o<;>rfl
      refine apply_to (fr:=⟨fn,tmps,.inRangeFunc l::k,mark++ds,.run,.normal,ro⟩) hF ⟨hfn,(fun d hd=>(List.mem_append.1 hd).elim (hm d) (hds d)),rfl,zua rfl hk⟩ rfl hcs ⟨_,_,rfl,rfl⟩ ?_;refine par_callValue (fun l=>(hB l).1) hF.fnIn ht1 (fun e he=>by simp at he) ?_;intro d v2 g hd hl;refine hab g ?_;have e1:(Instr.enterLoop fn tmps ps a b ro).run p v=.ok (l,mark) v1:=by have:=Sem.runT_fst p (Instr.enterLoop fn tmps ps a b ro) v #[];rw[hr] at this;exact this.symm
      rw[hev] at hd;simp only[Frame.about,e1,hd,hl]
   |_=>exact absurd h0 (by simp[itemOk,codeOk])
  |inRangeFunc l=>exact zE.over_ (by simp[G,stepG,stepG.exec])
  |beginRound=>
   refine apply_calm hF hfr rfl hcs ⟨_,_,rfl,rfl⟩ (s:=do ro.elim (stuck "beginRound: no round") Instr.beginRound;pure .skip) ?_ (by simp[G,stepG,stepG.exec]) (by simp[G,stepG,stepG.exec]);cases ro with
   |none=>exact⟨(trivial:zma (.stuck _)),ht.clean⟩
   |some l=>exact Par.bind (par_beginRound hB ht (fun e he=>by simp at he)) fun x v1 w1 es1 _ _ he1 ht1=>⟨trivial,he1,w1,rfl,ht1⟩
  |endRangeFunc l=>
   have hP:=par_endLoop (p:=p) (B:=B) (es:=#[]) (l:=l) hB ht (fun e he=>by simp at he);obtain⟨q,e0⟩:∃ q:String,∀ x:World,stepG p true (G ⟨fn,tmps,.endRangeFunc l::k,ds,.run,.normal,ro⟩ cs) x=GStep.after (seen p fn ((Instr.endLoop l).runT p x #[]).2) (match ((Instr.endLoop l).runT p x #[]).1 with
     |.ok j x'=>.go (G ⟨fn,tmps,(j.map Item.code).toList++k,ds,.run,.normal,ro⟩ cs) x'
     |.halt (.panic y) x'=>.go (G (Frame.raise ⟨fn,tmps,.endRangeFunc l::k,ds,.run,.normal,ro⟩ [{v:=y,recovered:=false}]) cs) x'
     |.halt _ x'=>.ended (.stuck "range over a function: no such loop" q) x'):=by
    apply Exists.intro;intro x;simp only[G,stepG,stepG.exec];rfl
   unfold zE;rw[e0 v,e0 w];unfold Par at hP;cases hr:(Instr.endLoop l).runT p v #[] with
   |mk r es1=>
    rw[hr] at hP;cases r with
    |halt x v1=>
     cases x with
     |panic y=>exact .inl ⟨⟨_,cs,_,rfl,rfl,rfl,hds,hfn,hcs⟩,hP.2⟩
     |_=>exact trivial
    |ok j v1=>
     obtain⟨hj,he,w1,ew,ht1⟩:=hP;rw[ew];refine zmb.after (.inr ⟨to _ (fun it hit=>?_),(fun e he=>by simp at he),w1,rfl,ht1⟩) (zCb he);rcases List.mem_append.1 hit with h|h
     ·cases j with
      |none=>simp at h
      |some c=>simp at h;subst h;exact hj c rfl
     ·exact hk it h
  |inRegion ops l=>
   cases l with
   |nil=>exact zE.still (g1:=G ⟨fn,tmps,k,ds,.run,.normal,ro⟩ cs) (fun x=>by simp[G,stepG,stepG.exec]) (to k hk) ht
   |cons i rest=>
    cases hw:((ops[i]?).map (Region.wanted · (yielded ops tmps))).getD false with
    |false=>refine zE.still (g1:=G (Frame.finish ⟨fn,tmps,.inRegion ops (i::rest)::k,ds,.run,.normal,ro⟩ undef) cs) (fun x=>by simp[G,stepG,stepG.exec,hw]) ?_ ht;exact⟨_,cs,rfl,hfr.finish undef,.inl (by rw[finish_mode]),hcs⟩
    |true=>
     cases ho:ops[i]? with
     |none=>rw[ho] at hw;simp at hw
     |some o=>
      rw[ho] at hw;have hw':Region.wanted o (yielded ops tmps)=true:=by simpa using hw
      have hok:opOk p o.op=true:=by have:=List.all_eq_true.1 h0 o (by obtain⟨hi,e⟩:=Array.getElem?_eq_some_iff.1 ho;rw[←e];simp);exact this
      refine apply_calm hF hfr rfl hcs ⟨_,_,rfl,h0⟩ (par_exec (fun l=>(hB l).1) (ρ:=Frame.eval ⟨fn,tmps,.inRegion ops (i::rest)::k,ds,.run,.normal,ro⟩) (o:=o) hF.fnIn hok ht (fun e he=>by simp at he) ?_) ?_ ?_
      ·intro c d v1 f hc hr hl;refine hab f ?_;simp only[Frame.about,ho,hc,hr,hl]
      all_goals
       simp only[G,stepG,stepG.exec,stepG.oper,Frame.oper?,ho,hw',Option.map_some,Option.getD_some,if_true];split
       ·next c hop=>rw[hop] at hok;cases hok
       ·rfl
  |_=>exact absurd h0 (by simp[itemOk])
end
end
section
open Go.Conc
section
variable {p:Program}{B:Floor}{w v:World}{F:FuncId→Prop}
theorem calm_results(fn:Func)(tmps:Array Value):calm p (fun _=>True) (results fn tmps):=by
 unfold results;refine zd (calm_mapM (fun r=>?_) _) fun vs=>ze _
 split
 ·exact ze _
 ·exact zd (calm_asAddr _) fun a=>calm_loadVar _ _
theorem step_ret(hF:zfa p F){fr:Frame}{cs:List Frame}(hfr:FrIn p F fr)(hm:fr.mode=.returning)(hcs:Under p F cs)(ht:Twin B w v):zE p F B (G fr cs) v w:=by
 obtain⟨fn,c,hk⟩:=hF _ hfr.fn;cases hd:fr.defers with
 |nil=>
  refine step_back (s:=results fn fr.tmps) (hh:=fun h x=>match h with|.stuck s=>.ended (.stuck s (fr.pos p)) x|_=>.ended (.stuck "return: the result variables cannot be read" (fr.pos p)) x) hF hfr hcs (fun h x=>by cases h<;>exact⟨_,_,_,rfl⟩)
   (zq (calm_results fn fr.tmps) ht (fun e he=>by simp at he)) fun x=>?_
  simp only[G,stepG,hm,unwind,hd,hk.at_];cases((results fn fr.tmps).runT p x #[]).1 with
  |ok y x'=>rfl
  |halt h x'=>cases h<;>rfl
 |cons d ds=>
  have hdm:=hfr.df;rw[hd] at hdm;obtain⟨r,rfl⟩:=hdm d (List.mem_cons_self ..);have hP:=zq (p:=p) (es:=#[]) (calm_takeDeferred r) ht (fun e he=>by simp at he);obtain⟨q,e0⟩:∃ q:String,∀ x:World,stepG p true (G fr cs) x=GStep.after (seen p fr.fn ((Instr.takeDeferred r).runT p x #[]).2) (match ((Instr.takeDeferred r).runT p x #[]).1 with
    |.ok calls x'=>.go (G {fr with defers:=calls++ds} cs) x'
    |.halt _ x'=>.ended (.stuck "the deferred calls of a range-over-func loop have been taken" q) x'):=by
   apply Exists.intro;intro x;simp only[G,stepG,hm,unwind,hd];rfl
  unfold zE;rw[e0 v,e0 w];unfold Par at hP;cases hr:(Instr.takeDeferred r).runT p v #[] with
  |mk y es1=>
   rw[hr] at hP;cases y with
   |halt x v1=>exact trivial
   |ok calls v1=>obtain⟨hc,he,w1,ew,ht1⟩:=hP;have hc:calls=[]:=hc;subst hc;rw[ew];exact zmb.after (.inr ⟨⟨_,cs,rfl,⟨hfr.fn,(fun d hd=>hdm d (List.mem_cons_of_mem _ hd)),hfr.kd,hfr.td⟩,.inr hm,hcs⟩,(fun e he=>by simp at he),w1,rfl,ht1⟩) (zCb he)
theorem step_fine(hB:∀ l,B.good l↔zka p F l)(hF:zfa p F){g:Goroutine}(hg:Fine p F g)(hab:∀ f,g.frame.about p v=some f→F f)(ht:Twin B w v):zE p F B g v w:=by
 obtain⟨fr,cs,rfl,hfr,hm,hcs⟩:=hg;rcases hm with hm|hm
 ·obtain⟨fn,tmps,todo,defers,mode,kind,ro⟩:=fr;obtain rfl:mode=.run:=hm;obtain rfl:kind=.normal:=hfr.kd;exact step_run hB hF hfr hcs hab ht
 ·exact step_ret hF hfr hm hcs ht
theorem take_clean{r:Nat}(hc:zza v):(∃ h x es,(Instr.takeDeferred r).runT p v #[]=(.halt h x,es))∨∃ x es,(Instr.takeDeferred r).runT p v #[]=(.ok [] x,es)∧zza x:=by
 show(∃ h x es,(Sem.getObj r _).runT p v #[]=(.halt h x,es))∨∃ x es,(Sem.getObj r _).runT p v #[]=(.ok [] x,es)∧zza x;simp only[Sem.runT];cases hv:v.heap[r]? with
 |none=>exact .inl ⟨_,_,_,rfl⟩
 |some o=>
  cases o with
  |deferred c=>
   cases c with
   |none=>exact .inl ⟨_,_,_,rfl⟩
   |some ds=>
    cases ds with
    |cons a l=>exact absurd hv (hc r a l)
    |nil=>
     refine .inr ⟨{v with heap:=v.heap.setIfInBounds r (.deferred none)},(#[].push ⟨.obj r,false,false⟩).push ⟨.obj r,true,false⟩,?_,?_⟩
     ·show(Sem.setObj r (.deferred none) (Sem.pure [])).runT p v _=_;simp only[Sem.runT,hv];rfl
     ·intro i a l;simp only[Array.getElem?_setIfInBounds];split
      ·split
       ·intro e;cases e
       ·intro e;cases e
      ·exact hc i a l
  |_=>exact .inl ⟨_,_,_,rfl⟩
theorem step_pan (hF:zfa p F) {g:Goroutine} (hg:Pan p F g) (hcl:zza v):(∃ o v1 es,stepG p true g v=.ended o v1 es)∨∃ g1 v1 es,stepG p true g v=.go g1 v1 es∧((Pan p F g1∧zza v1)∨(g1.status=.running∧g1.dying.isNone=false)):=by
  obtain⟨fr,cs,chain,rfl,hm,hx,hd,hfn,hcs⟩:=hg;obtain⟨fn,c,hk⟩:=hF _ hfn;have hct:fr.catches p=false:=by unfold Frame.catches;rw[hk.at_]
  cases hdf:fr.defers with
  |cons d ds=>
    rw[hdf] at hd;obtain⟨r,rfl⟩:=hd d (List.mem_cons_self ..);obtain⟨q,e0⟩:∃ q:String,stepG p true (G fr cs) v=GStep.after (seen p fr.fn ((Instr.takeDeferred r).runT p v #[]).2) (match ((Instr.takeDeferred r).runT p v #[]).1 with
        |.ok calls x'=>.go (G {fr with defers:=calls++ds} cs) x'
        |.halt _ x'=>.ended (.stuck "the deferred calls of a range-over-func loop have been taken" q) x'):=by
      apply Exists.intro;simp only[G,stepG,hm,unwind,hdf];rfl
    rw[e0];rcases take_clean (p:=p) (r:=r) hcl with⟨h,x,es,e⟩|⟨x,es,e,hx'⟩
    · rw[e];exact .inl ⟨_,_,_,rfl⟩
    · rw[e];exact .inr ⟨_,_,_,rfl,.inl ⟨⟨_,cs,chain,rfl,hm,hx,(fun d h=>hd d (List.mem_cons_of_mem _ h)),hfn,hcs⟩,hx'⟩⟩
  |nil=>
  have e0:stepG p true (G fr cs) v=(match cs with
      |caller::rest=>.go (G (caller.raise chain) rest) v
      | []=>match (reportChain chain false).run p v with
          |.ok todo w=>
            .go {frame:=fr,callers:=[],status:=.running,
                  dying:=some {todo,texts:=[],calling:=false,pending:= "",
                                  runtimeError:=isRuntimeError p (chain.head?.map (·.v))}} w
          |.halt (.unsupported u) w=>.ended (.unsupported u "") w
          |.halt _ w=>.ended (.stuck "the report of a panic" "") w):=by
    cases cs with
    |nil=>
      simp only[G,stepG,hm,unwind,hdf,hct,hx,Bool.false_eq_true,if_false];cases(reportChain chain false).run p v with
      |ok todo w=>rfl
      |halt x w=>cases x<;>rfl
    |cons c rest=>simp only[G,stepG,hm,unwind,hdf,hct,Bool.false_eq_true,if_false]
  rw[e0];cases cs with
  |cons c rest=>
    obtain⟨h1,h2⟩:=hcs c (List.mem_cons_self ..);refine .inr ⟨_,_,_,rfl,.inl ⟨⟨c.raise chain,rest,chain,rfl,?_,hx,?_,?_,fun d hd=>hcs d (List.mem_cons_of_mem _ hd)⟩,hcl⟩⟩
    · unfold Frame.raise;rw[h2]
    · unfold Frame.raise;rw[h2];exact h1.df
    · unfold Frame.raise;rw[h2];exact h1.fn
  |nil=>
    dsimp only;cases(reportChain chain false).run p v with
    |ok todo w=>exact .inr ⟨_,_,_,rfl,.inr ⟨rfl,rfl⟩⟩
    |halt x w=>cases x<;>exact .inl ⟨_,_,_,rfl⟩
theorem lone_ok{es:Array Event}(h:OkEvs es)(fn:FuncId)(pos:String):Lone (MemOp.ofEvents 0 fn pos es):=by
 intro op hop;obtain⟨e,he,rfl⟩:=Go.Conc.mem_ofEvents hop;have hk:=h e he;have key:∀ m,MemAct.ofEvent e=.mark m→e.loc=.mark m:=by
  intro m hm;obtain⟨l,wr,sy⟩:=e;cases l with
  |mark m'=>simp[MemAct.ofEvent] at hm;subst hm;rfl
  |obj r=>cases wr<;>cases sy<;>simp[MemAct.ofEvent] at hm
  |_=>simp[MemAct.ofEvent] at hm
 refine⟨rfl,fun hm=>?_,fun hm=>?_,fun a hm=>?_⟩<;>(have e1:=key _ hm;unfold okEv at hk;rw[e1] at hk;exact hk)
theorem step_solo_ended{g:Goroutine}{o:Outcome}{v1:World}{es:Array Event}(hs:g.status=.running)(h:stepG p true g v=.ended o v1 es):Go.step p (solo g v)=.ended o v1:=by rw[Go.step,stepT_solo hs];simp[runT,solo,Array.swapAt!,Array.swapAt,h,GStep.es]
theorem chain_pan{Fc:Fence}(hal:Fc.alive=true)(hF:zfa p Fc.fn){m m':Machine}(h:StepsIn (Machine.fenced p Fc) p m m') :
  ∀ g v,m=solo g v→Pan p Fc.fn g→zza v→∀ fr' cs' v',m'=solo (G fr' cs') v'→fr'.mode=.run→False:=by
 induction h with
 |refl m=>
  rintro g v rfl ⟨fr,cs,chain,rfl,hm,_⟩ hcl fr' cs' v' e hm';have e1:(solo (G fr cs) v).gs=(solo (G fr' cs') v').gs:=by rw[e]
  simp[solo,G] at e1;rw[e1.1,hm'] at hm;cases hm
 |head hI hs h' ih=>
  rename_i m0 m1 m2;rintro g v rfl hg hcl fr' cs' v' e hm';have hrun:g.status=.running:=by obtain⟨fr,cs,chain,rfl,_⟩:=hg;rfl
  rcases step_pan (v:=v) hF hg hcl with⟨o,v1,es,h1⟩|⟨g1,v1,es,h1,h2⟩
  ·rw[step_solo_ended hrun h1] at hs;cases hs
  ·have hs1:Go.step p (solo g v)=.next (solo g1 v1):=by rw[Go.step,stepT_solo hrun,runT_solo_go h1]
   rw[hs1] at hs;cases hs;rcases h2 with h2|⟨h2,h3⟩
   ·exact ih g1 v1 rfl h2.1 h2.2 fr' cs' v' e hm'
   ·cases h' with
    |refl=>
     have e1:(solo g1 v1).gs=(solo (G fr' cs') v').gs:=by rw[e]
     simp[solo] at e1;rw[e1] at h3;simp[G] at h3
    |head hI' _ _=>have:=(hI' g1 (by simp[solo])).1 hal;rw[this] at h3;cases h3
theorem chain_calm{Fc:Fence}(hB:∀ l,B.good l↔zka p Fc.fn l)(hal:Fc.alive=true)(hF:zfa p Fc.fn){m m':Machine}(h:StepsIn (Machine.fenced p Fc) p m m') :
  ∀ g v w t,m=solo g v→Fine p Fc.fn g→Twin B w v→Lone t→∀ fr' cs' v',m'=solo (G fr' cs') v'→fr'.mode=.run →
   ∃ N w' t',runNT p N (solo g w) t=(.next (solo (G fr' cs') w'),t')∧Lone t'∧Twin B w' v':=by
 induction h with
 |refl m=>
  rintro g v w t rfl hg ht hl fr' cs' v' e hm';have e1:(solo g v).gs=(solo (G fr' cs') v').gs:=by rw[e]
  have e2:(solo g v).world=(solo (G fr' cs') v').world:=by rw[e]
  simp[solo] at e1 e2;subst e1;subst e2;exact⟨0,w,t,rfl,hl,ht⟩
 |head hI hs h' ih=>
  rename_i m0 m1 m2;rintro g v w t rfl hg ht hl fr' cs' v' e hm';have hrun:g.status=.running:=by obtain⟨fr,cs,rfl,_⟩:=hg;rfl
  have hst:=step_fine (v:=v) (w:=w) (B:=B) hB hF hg (hI g (by simp[solo])).2.2.1 ht;unfold zE zmb at hst;cases hsg:stepG p true g v with
  |ended o v1 es=>rw[step_solo_ended hrun hsg] at hs;cases hs
  |go g1 v1 es=>
   rw[hsg] at hst;have hs1:Go.step p (solo g v)=.next (solo g1 v1):=by rw[Go.step,stepT_solo hrun,runT_solo_go hsg]
   rw[hs1] at hs;cases hs;rcases hst with hpan|⟨hfine,hes,w1,hw1,ht1⟩
   ·exact absurd (chain_pan hal hF h' g1 v1 rfl hpan.1 hpan.2 fr' cs' v' e hm') id
   ·obtain⟨N,w',t',hr,hl',ht'⟩:=ih g1 v1 w1 (t++MemOp.ofEvents 0 g.frame.fn g.frame.place es) rfl hfine ht1 (hl.app (lone_ok hes _ _)) fr' cs' v' e hm';refine⟨N+1,w',t',?_,hl',ht'⟩;simp only[runNT,stepT_solo hrun,runT_solo_go hw1];exact hr
  |_=>rw[hsg] at hst;exact hst.elim
end
end
section
open Go.Conc Go.RowKit
def fnOkB(p:Program)(f:FuncId):Bool:=
 match p.funcs[f]? with
 |some fn=>match fn.body with
  |some c=>!(fn.name == "runtime.NumGoroutine")&&codeOk p c&&(p.inits.idxOf? f).isNone
  |none=>false
 |none=>false
theorem fenceOk_of{p:Program}{L:List FuncId}(h:L.all (fnOkB p)=true):zfa p (·∈L):=by
 intro f hf;have h1:=List.all_eq_true.1 h f hf;unfold fnOkB at h1;split at h1
 ·next fn e1=>
  split at h1
  ·next c e2=>simp only[Bool.and_eq_true,Bool.not_eq_true',Option.isNone_iff_eq_none] at h1;exact⟨fn,c,e1,h1.1.1,e2,h1.1.2,h1.2⟩
  ·cases h1
 ·cases h1
def badB:Obj→Bool
 |.loop _|.pending _ _|.deferred (some (_::_))=>true
 |_=>false
theorem badB_iff(o:Obj):badB o=true↔bad o:=by
 cases o<;>try simp[badB,bad]
 next c=>
  cases c with
  |none=>simp[badB,bad]
  |some l=>cases l<;>simp[badB,bad]
def strike(w:World):World:={w with heap:=w.heap.map fun o=>if badB o then .coro none else o}
theorem strike_at(w:World)(i:Nat):(strike w).heap[i]? = (w.heap[i]?).map fun o=>if badB o then .coro none else o:=by simp[strike]
theorem twin_strike(w:World)(g:Loop→Prop):Twin ⟨w,g⟩ w (strike w) where
 tape:=rfl
 drawn:=rfl
 os:=rfl
 output:=rfl
 size:=by simp[strike]
 at_:=by
  intro i;rw[strike_at];cases h:w.heap[i]? with
  |none=>left;rfl
  |some o=>
   by_cases hb:badB o=true
   ·right;exact⟨o,(badB_iff o).1 hb,rfl,by simp[hb],rfl⟩
   ·left;simp[hb]
 ok:=by
  intro i o h hbad;rw[strike_at] at h;cases h1:w.heap[i]? with
  |none=>rw[h1] at h;cases h
  |some x=>
   rw[h1] at h;simp only[Option.map_some,Option.some.injEq] at h;subst h;by_cases hb:badB x=true
   ·simp[hb,bad] at hbad
   ·rw[if_neg hb] at hbad;exact absurd ((badB_iff x).2 hbad) hb
 keep:=fun i o h _ _=>h
theorem twin_below{W w v:World}{g:Loop→Prop}(ht:Twin ⟨W,g⟩ w v)(hb:Below W.heap.size (strike W) v):Below W.heap.size W w where
 os:=ht.os.trans (hb.os.trans rfl)
 tape:=ht.tape.trans (hb.tape.trans rfl)
 output:=ht.output.trans (hb.output.trans rfl)
 size:=by have:=hb.size;rw[ht.size];simpa[strike] using this
 block:=by
  intro k hk;have h1:=hb.block k hk;have h2:=strike_at W k;cases ho:W.heap[k]? with
  |none=>rw[Array.getElem?_eq_none_iff] at ho;omega
  |some o=>
   rw[ho] at h2;by_cases hbad:bad o
   ·refine ht.keep k o ho hbad ?_;rw[h1,h2];simp[(badB_iff o).2 hbad]
   ·have h3:badB o=false:=by
     cases h:badB o with
     |false=>rfl
     |true=>exact absurd ((badB_iff o).1 h) hbad
    simp only[Option.map_some,h3,Bool.false_eq_true,if_false] at h2;rcases ht.at_ k with e|⟨x,hx,e1,e2,e3⟩
    ·rw[e,h1,h2]
    ·have e4:W.heap[k]? = some x:=e3;rw[ho] at e4;cases e4;exact absurd hx hbad
end
section
open Go.Conc Go.ConcN Go.Conc.Lib Go.ConcR.Gen Go.ConcN.Gen
open Go.ConcR (KK wgBlock WgAt stA smA rd wr mk Payload DC0)
structure AtEndOf(p:Tab)(pl:T (T (List Phase)))(bot:List Frame)(xl:L)(w0:World)(Wg:Nat)(gs:Array Goroutine)(a:Goroutine)(w:World)(t:Trace)(q:Nat→Nat)(M:Loc→Prop):Prop where
 first:gs[0]? = some a
 last:AtLast p pl Wg bot xl M a w
 leave:Leavers p.prog t gs q
 past:PastX (ShN Wg) t
 clear:Clear (ShN Wg) M (fun l=>l=Loc.obj Wg∨OldL w0 l) w
 frame:Frm w0 M w
 grp:w0.heap.size≤Wg
section
variable {p:Tab}{pl:T (T (List Phase))}{Lk:WgLink}{c:Cfg}{bot:List Frame}
theorem whole_sound(H:WgLib p.prog Lk)(hp:TabOk p)(hmix:p.prog.follows .mixedOrders=true)(hadd:c.add=Lk.add)(hdone:c.done=Lk.done)(hwait:c.wait=Lk.wait)(hn0:0<c.n)(hn:c.n<2147483647)
  {x0 x1 y0 y xl:L} {m1 m2:Nat} {vals:List (List Value)} {h2:AHeap} (e1:zy p pl m1 x0 x1) (e2:zpc p c Lk.tWg x1=some y0) (e3:readyA c y0 (demoteA c y0.s.h)=true)
  (e4:startsA p pl c c.n 0 ⟨{y0.s with h:=demoteA c y0.s.h},none,[]⟩=some (vals,y)) (e5:fillA c vals y.s.h=some h2) (hw:zy p pl m2 ⟨{y.s with h:=h2},none,[]⟩ xl) {f:Inj} {M:Loc→Prop} {a:Goroutine} {w:World} {sl:Option (Nat×Nat)} {t:Trace} (ht:Lone t) (hM:∀ l,¬ M l) (hr:XRel f M (fun _=>False) bot x0 a w) :
  ∃(Wg N:Nat) (gs:Array Goroutine) (a':Goroutine) (w':World) (sl':Option (Nat×Nat)) (t':Trace) (q:Nat→Nat) (M':Loc→Prop),runNT p.prog N (crowd #[a] w sl) t=(.next (crowd gs w' sl'),t')∧AtEndOf p pl bot xl w Wg gs a' w' t' q M':=by
 unfold readyA at e3;simp only[Bool.and_eq_true] at e3;obtain⟨⟨⟨⟨⟨⟨⟨⟨⟨⟨k1,k2⟩,k3⟩,k4⟩,k5⟩,k6⟩,k7⟩,k8⟩,k9⟩,k10⟩,k11⟩:=e3
 obtain⟨mw,hG1⟩:=toWg (c:=c) hp hmix e1 e2 hr;have hG1':=(hG1.wide (Sh':=OldL w) (fun _ h=>h.elim)).keep (I:=fun Mi w1=>I0 Mi w1∧Frm w Mi w1) (fun _ _ _ h hr=>⟨h.1.rely hr,h.2.rely (fun _ h=>h) hr⟩) (fun _ _ _ _ _ h hd=>⟨h.1.did hd,h.2.did hd⟩) ⟨fun l hl=>(hM l hl).elim,fun l b hl _=>(hM l hl).elim,.refl _ _⟩;obtain⟨N1,a1,w1,sl1,t1,M1,hrun1,⟨⟨f1,xW,hx1,hbW,hxO,hwg⟩,hI1,hF1⟩,ht1⟩:=goesX_solo (fun _ _ h=>h) mw a w sl t M ht (fun l hl=>hl.elim (fun h=>(hM l h).elim) fun⟨b,h,_⟩=>⟨b,h⟩) hG1';have hy0:y0=⟨y0.s,none,[]⟩:=by obtain⟨_,_,_,_,_,_,_,_,_,_,_,_,_,_,_,_,_,rfl⟩:=allocA_some e2;rfl
 have hs1:SRel f1 M1 (fun _=>False) bot y0.s a1 w1:=by rw[hy0] at hx1;exact hx1.flat
 have point:∀{d b:Nat},pointsTo y0.s.fr.tmps d b=true→∃ x,f1 b=some x:=by
  intro d b hpt;unfold pointsTo at hpt;split at hpt
  ·next b' e=>
   obtain rfl:=Nat.eq_of_beq_eq_true hpt;obtain⟨fr,cs,_,hfr,_⟩:=hs1.fr;obtain⟨tm,td,df,rd,rfl,_,htr,_⟩:=hfr.ex;have:=htr d;rw[e] at this;simp only[Option.getD_some] at this;generalize tm.getD d undef=vv at this;cases this with
   |ptr h=>exact⟨_,h⟩
  ·cases hpt
 obtain⟨xB,hbB⟩:=point k6;obtain⟨xR,hbR⟩:=point k7;have hRB:c.bR≠c.bB:=fun e=>by simp[e,Nat.beq_refl] at k10
 have hRW:c.bR≠c.bW:=fun e=>by simp[e,Nat.beq_refl] at k11
 have hBW:c.bB≠c.bW:=fun e=>by simp[e,Nat.beq_refl] at k5
 have hr1:=hs1.heap;have inM:∀ b x,f1 b=some x→y0.s.h.owns b=true→∀ l,locBlk l=some x.blk→M1 l:=hr1.mine;have hN:∀ b x,f1 b=some x→w.heap.size≤x.blk:=fun b x hx=>hF1.1 _ _ ((hr1.home b x hx).elim id False.elim) rfl
 have hr2:HRel f1 (fun l=>M1 l∨False) M1 {y0.s.h with objs:=blank (blank (blank y0.s.h.objs c.bW) c.bB) c.bR} w1:=((hr1.blank (b:=c.bW)).blank (b:=c.bB)).blank (b:=c.bR);have hk1':zda {y0.s.h with objs:=blank (blank (blank y0.s.h.objs c.bW) c.bB) c.bR} c.bB (Nat.mul 2 c.n)=true:=k1;have hk2':zda {y0.s.h with objs:=blank (blank (blank y0.s.h.objs c.bW) c.bB) c.bR} c.bW 2=true:=k2;have hk3':zda {y0.s.h with objs:=blank (blank (blank y0.s.h.objs c.bW) c.bB) c.bR} c.bR c.nR=true:=k8;have hCW:xR.blk≠xW.blk:=fun e=>hRW (hr2.only hk2' hbW hbR e)
 have hCB:xR.blk≠xB.blk:=fun e=>hRB (hr2.only hk1' hbB hbR e)
 obtain⟨nC,ety,hnC,hpay0⟩:∃ nC ety,c.n≤nC∧∃ cs,w1.heap[xR.blk]? = some (.cells cs ety)∧cs.size=nC:=by obtain⟨cr,ur,er,_,hlr⟩:=zZ hk3';obtain⟨o,g1,g2⟩:=hr2.obj _ _ hbR;rw[er] at g1;cases g1;obtain⟨_,rc,ety,g3,_,g4,_⟩:=g2;have:=Nat.le_of_ble_eq_true k9;exact⟨rc.size,ety,by omega,rc,g3,rfl⟩
 letI:Payload:=⟨ety⟩
 have hpay:PayAt xR.blk nC w1:=hpay0;have hBne:xB.blk≠xW.blk:=fun e=>hBW (hr2.only hk2' hbW hbB e)
 have remM:∀ l,Rem xB c.n 0 l→M1 l:=fun l hl=>inM _ _ hbB k3 l hl.blk
 have hr3:HRel f1 (fun l=>Rem xB c.n 0 l∨(M1 l∧¬ Rem xB c.n 0 l∧¬ ShN xW.blk l∧∀ i,l≠cellAt xR.blk i)) (Rem xB c.n 0) (demoteA c y0.s.h) w1:=by
  refine hr2.move2 hk1' hbB hk2' hbW hk3' hbR rfl rfl (fun l hl hform hB hW hR=>.inr ⟨hl.elim id False.elim,fun h=>?_,fun h=>?_,hR⟩) (fun b x hx ho=>?_) (fun b x i hx hi=>by simp[demoteA,inList] at hi)
  ·obtain⟨i,j,_,_,_,d⟩:=h;exact hB _ d
  ·obtain⟨ad,e,hb⟩:=h;obtain⟨b,i,e'|e'⟩:=hform
   ·rw[e] at e';cases e';exact hW i (by rw[e,←hb])
   ·rw[e] at e';cases e'
  ·have h1:=owns_lt ho;have h2:=hr1.lt hx;simp only[demoteA] at h1;omega
 have hx3:XRel f1 (Rem xB c.n 0) (fun l=>M1 l∧¬ Rem xB c.n 0 l∧¬ ShN xW.blk l∧∀ i,l≠cellAt xR.blk i) bot ⟨{y0.s with h:=demoteA c y0.s.h},none,[]⟩ a1 w1:=SRel.flat ⟨hs1.fr,hr3⟩;have hJ:J Lk xW.blk xR.blk nC xB w c.n 0 (Rem xB c.n 0) w1:=⟨⟨0,0,hwg⟩,hpay,fun i h=>hBne (by have:=h.blk;simp only[locBlk,Option.some.injEq] at this;exact this.symm),fun l h=>h,fun l b hl hb=>hF1.1 l b (remM l hl) hb,hF1.2.size⟩;have hscript:=starts_sound (vals:=vals) (nC:=nC) (xW:=xW) (hn:=hn) (hCW:=hCW) (hCB:=hCB) (w0:=w) (hWN:=hN _ _ hbW) (hCN:=hN _ _ hbR) H hp hmix hadd hdone hwait hnC rfl hxO (endOk (bot:=bot) H hp hmix rfl hxO hBW e5 hw) c.n 0 e4 (by omega) (fun j=>by rw[Nat.zero_add]) hx3 hbW hbB hJ
  ⟨fun i h=>h.2.2.1 ⟨_,rfl,rfl⟩,fun l b h hb=>hF1.1 l b h.1 hb⟩
 have noSy:∀ l,Rem xB c.n 0 l∨(M1 l∧¬ Rem xB c.n 0 l∧¬ ShN xW.blk l∧∀ i,l≠cellAt xR.blk i)→¬ ShN xW.blk l:=by
  intro l hl;rcases hl with hl|hl
  ·rintro⟨ad,e,hb⟩;have:=hl.blk;rw[e] at this;simp only[locBlk,Option.some.injEq] at this;exact hBne (this.symm.trans hb)
  ·exact hl.2.2.1
 have inM1:∀ l,Rem xB c.n 0 l∨(M1 l∧¬ Rem xB c.n 0 l∧¬ ShN xW.blk l∧∀ i,l≠cellAt xR.blk i)→M1 l:=fun l hl=>hl.elim (remM l) (·.1)
 obtain⟨N2,m2,t2,hrun2,gs,w2,sl2,a2,q2,Mq,Sq,rfl,hsz,ha2,⟨m3,hG3⟩,hL2,hP2,hlt2,hfr2⟩:=crowd_from (X:=Crw p Lk c.n xW.blk xR.blk nC xB.blk xB.off vals hn hCW hCB w (hN _ _ hbW) (hN _ _ hbR)) (sl:=sl1) hn0 (fun op ho=>(ht1 op ho).1) (fun op ho=>⟨(ht1 op ho).2.1,(ht1 op ho).2.2.1,(ht1 op ho).2.2.2 _⟩)
  hwg hpay (fun l hl=>⟨noSy l hl,hI1 l (inM1 l hl)⟩) (fun l hl i e=>by
   rcases hl with hl|hl
   ·have:=hl.blk;subst e;simp only[locBlk,Option.some.injEq] at this;exact hCB this
   ·exact hl.2.2.2 i e) hF1.2 (fun l hl=>hF1.not (remM l hl)) hscript
 have hclear:Clear (ShN xW.blk) (zcc w xW.blk) (fun l=>l=Loc.obj xW.blk∨OldL w l) w2:=by
  refine⟨fun l hl=>?_,fun l ⟨ad,e,hb⟩=>⟨xW.blk,by rw[e];simp[locBlk,hb],hlt2⟩⟩;rcases hl with⟨b,h1,h2,_⟩|h|⟨b,h1,h2⟩
  ·refine⟨fun⟨ad,e,hb⟩=>?_,b,h1⟩;rw[e] at h1;simp only[locBlk,Option.some.injEq] at h1;exact h2 (h1.symm.trans hb)
  ·rw[h];exact⟨fun⟨ad,e,_⟩=>(by cases e),xW.blk,rfl⟩
  ·refine⟨fun⟨ad,e,hb⟩=>?_,b,h1⟩;rw[e] at h1;simp only[locBlk,Option.some.injEq] at h1;have:=hN _ _ hbW;omega
 have hG3':=(hG3.wide (Sh':=fun l=>l=Loc.obj xW.blk∨OldL w l) (fun _ h=>.inl h)).keep (I:=fun Mi w1=>Frm w Mi w1) (fun _ _ _ h hr=>h.rely (fun _ h=>.inr h) hr) (fun _ _ _ _ _ h hd=>h.did hd) ⟨fun l b ⟨b',h1,_,h3⟩ hb=>by rw[hb] at h1;cases h1;exact h3,hfr2⟩;obtain⟨N3,gs',a3,w3,sl3,t3,q3,M3,hrun3,hs3,ha3,⟨hQ3,hF3⟩,hL3,hP3,hC3⟩:=goesX_beside (P:=p.prog) (Shun:=ShN xW.blk) (L:=WgLive Lk.tWg xW.blk) (fun _ _ h=>h) (fun _ _ _ ⟨⟨_,hx⟩,_⟩=>hx.running) _ m3 gs a2 w2 sl2 t2 q2 (zcc w xW.blk) (Nat.le_refl _) ha2 hL2 hP2 hclear hG3';refine⟨xW.blk,N1+(N2+N3),gs',a3,w3,sl3,t3,q3,M3,?_,⟨ha3,hQ3,hL3,hP3,hC3,hF3,hN _ _ hbW⟩⟩;rw[runNT_add,hrun1];simp only[];rw[runNT_add];have hrun2':runNT p.prog N2 (crowd #[a1] w1 sl1) t1=(.next (crowd gs w2 sl2),t2):=hrun2;rw[hrun2'];exact hrun3
end
end
end Go.Cx
section
namespace Go.Cx
open Go.Conc Go.ConcN Go.Conc.Lib Go.ConcR.Gen Go.ConcN.Gen
open Go.ConcR (KK wgBlock WgAt stA smA rd wr mk Payload DC0)
theorem runN_of_NT{P:Program}:∀{N:Nat} {m m':Machine} {t t':Trace},runNT P N m t=(.next m',t')→runN P N m=.next m'
 |0,m,m',t,t',h=>by simp only[runNT] at h;cases h;rfl
 |N+1,m,m',t,t',h=>by
  simp only[runNT] at h;cases e:stepT P m with
  |mk r ops=>
   rw[e] at h;cases r with
   |next m1=>simp only[] at h;rw[runN_succ_next e];exact runN_of_NT h
   |_=>simp at h
section
variable {P:Program}{Shun S:Loc→Prop}{L:World→Prop}{Post:Value→World→Prop}{Q:(Loc→Prop)→Goroutine→World→Prop}
theorem GoesX.stable{main:Bool}{n:Nat}{M:Loc→Prop}{g:Goroutine}{w:World}(h:GoesX P main S L Q n M g w):GoesX P main S L (fun M g w=>∀ w1,Rely L (fun l=>M l∨S l) w w1→Q M g w1) n M g w:=
 GoesX.bind (m:=0) (fun M g w h=>.here fun w1 h1 w2 h2=>h w2 (h1.trans h2)) h
theorem goesX_of_still{main:Bool}{K:Loc→Prop}{Stop:Goroutine→World→Prop}(hS:∀ l,K l→S l):∀(n:Nat) {M:Loc→Prop} {g:Goroutine} {w:World},Goes P main (fun w w1=>Env K w w1) DC0 Stop n g w→(∀ g w,Stop g w→g.status=.running)→GoesX P main S L (fun _ g w=>Stop g w) n M g w
 |0,M,g,w,h,hr=>.here fun w1 h1=>h w1 (h1.1.mono fun l hl=>.inr (hS l hl))
 |n+1,M,g,w,h,hr=>by
  rcases h with h|⟨hs,h⟩
  ·exact .here fun w1 h1=>h w1 (h1.1.mono fun l hl=>.inr (hS l hl))
  ·refine .step hs fun w1 h1=>?_
   have:=h w1 (h1.1.mono fun l hl=>.inr (hS l hl));cases e:stepG P main g w1 with
   |go g' w' es=>rw[e,goes_go] at this;obtain⟨⟨rfl,rfl⟩,hG⟩:=this;exact⟨g',_,_,M,rfl,.quiet,goesX_of_still hS n hG hr⟩
   |_=>rw[e] at this;exact this.elim
def AtEndX(P:Program)(Post:Value→World→Prop)(M S:Loc→Prop)(g:Goroutine)(w:World):Prop:=
 g.status=.running∧∃ v es,stepG P true g w=.ended (.done v) w es∧(∀ e∈es,EvIn M S e)∧Post v w
def EInv(P:Program)(Shun S:Loc→Prop)(L:World→Prop)(Post:Value→World→Prop)(μ:Nat)(m:Machine)(t:Trace):Prop:=
 ∃(gs:Array Goroutine) (a:Goroutine) (w:World) (sl:Option (Nat×Nat)) (q:Nat→Nat) (M:Loc→Prop),
  m=crowd gs w sl∧gs[0]? = some a∧Leavers P t gs q∧PastX Shun t∧Clear Shun M S w∧(∀ w1,Rely L (fun l=>M l∨S l) w w1→AtEndX P Post M S a w1)∧μ=sumTo gs.size q
theorem ends_step(hL:∀ w d,L w→L (w.at d))(μ:Nat)(m:Machine)(t:Trace)(h:EInv P Shun S L Post μ m t) :
  (∃ o w ops,stepT P m=(.ended o w,ops)∧Go.Conc.Good P Post m o w (t++ops))∨(∃ m' ops μ',stepT P m=(.next m',ops)∧μ'<μ∧EInv P Shun S L Post μ' m' (t++ops)):=by
 obtain⟨gs,a,w,sl,q,M,rfl,h0,hLv,hP,hC,hE,rfl⟩:=h;have hat:∀(d:Nat),Rely L (fun l=>M l∨S l) w (w.at d):=fun d=>⟨zqc _ w d,hL w d⟩
 have hrun:a.status=.running:=(hE w (.refl _ _ w)).1;have haw:∀ g∈gs,awake g:=by
  intro g hg;obtain⟨i,hi,rfl⟩:=Array.mem_iff_getElem.1 hg;rcases Nat.eq_zero_or_pos i with rfl|hpos
  ·have:gs[0]=a:=by simpa[Array.getElem?_eq_getElem hi] using h0
   rw[this];exact awake_of (.inl hrun)
  ·exact awake_of ((hLv.old i _ hpos (Array.getElem?_eq_getElem hi)).status.elim .inl fun x=>.inr (.inr x))
 obtain⟨i,g,d,sl',hi,hg,hst⟩:=crowd_pick (P:=P) (w:=w) (sl:=sl) haw ⟨0,a,h0,hrun⟩;rcases Nat.eq_zero_or_pos i with rfl|hpos
 ·obtain rfl:g=a:=by rw[h0] at hi;exact(Option.some.inj hi).symm
  obtain⟨_,v,es,hend,hes,hpost⟩:=hE (w.at d) (hat d);have hrunT:=runT_many_ended (P:=P) (sl:=sl') (i:=0) hi (show stepG P (0==0) g (w.at d)=_ from hend);have hC0:Clear Shun M S (w.at d):=⟨hC.out,hC.old⟩;have hP':=hP.own hC0 (Did.still (w:=w.at d) hes) g.frame.fn g.frame.place;refine .inl ⟨_,_,_,hst.trans hrunT,v,rfl,hpost,hP'.clean,hP'.over,⟨fun x hx=>?_,rfl⟩,fun j x hx hj=>?_⟩
  ·obtain⟨j,hj⟩:=List.mem_iff_getElem?.1 hx;rw[List.getElem?_drop] at hj;exact⟨_,(hLv.old (1+j) x (by omega) (by simpa[crowd] using hj)).leaves⟩
  ·have hq:=hLv.old j x (by omega) hx;refine⟨q j,?_⟩;have e:(t++MemOp.ofEvents 0 g.frame.fn g.frame.place es).deaf j (t++MemOp.ofEvents 0 g.frame.fn g.frame.place es).size=Deaf t j:=
    Deaf_other t (g:=j) (g':=0) (by omega) _ (fun op hop=>by obtain⟨e,_,rfl⟩:=Go.Conc.mem_ofEvents hop;rfl)
   rw[e];exact hq.hears _
 ·have hq:=hLv.old i g hpos hi;have hi0:(i==0)=false:=by simp;omega
  have hlt:i<gs.size:=(Array.getElem?_eq_some_iff.1 hi).1;cases hqi:q i with
  |zero=>rw[hqi] at hq;rw[hq.1] at hg;cases hg
  |succ k=>
   rw[hqi] at hq;rcases hq with⟨hf,_⟩|⟨_,g',es,hm,hstp,hq'⟩
   ·rw[hf] at hg;cases hg
   have hrunT:=runT_crowd_go (P:=P) (sl:=sl') (i:=i) hi (by rw[hi0];exact hstp (w.at d));have hsz:((gs.map (Go.Conc.woken P g g' (w.at d))).setIfInBounds i g').size=gs.size:=by simp
   have hsum:sumTo gs.size (upd q i k)+(k+1)=sumTo gs.size q+k:=by have:=sumTo_upd q k id hlt;simpa[hqi] using this
   refine .inr ⟨_,_,sumTo gs.size (upd q i k),hst.trans hrunT,by omega,_,a,w.at d,sl',upd q i k,M,rfl,?_,⟨fun j x hj hx=>?_,fun j hj=>by rw[Deaf_other t (g':=i) (by simp at hj;omega) _ (fun op hop=>by obtain⟨e,_,rfl⟩:=Go.Conc.mem_ofEvents hop;rfl)];exact hLv.above j (by simpa using hj)⟩,hP.mute (by omega) hm,⟨hC.out,hC.old⟩,fun w1 h1=>hE w1 ((hat d).trans h1),by rw[hsz]⟩
   ·have hne:i≠0:=by omega
    rw[Array.getElem?_setIfInBounds_ne hne,Array.getElem?_map,h0];simp[woken_run hrun]
   ·by_cases hji:i=j
    ·subst hji;rw[Array.getElem?_setIfInBounds_self_of_lt (by simpa using hlt)] at hx;obtain rfl:=Option.some.inj hx;rw[upd_same,Deaf_own];exact hq'
    ·rw[Array.getElem?_setIfInBounds_ne hji,Array.getElem?_map] at hx;obtain⟨y,hy,rfl⟩:=Option.map_eq_some_iff.1 hx;have hqj:=hLv.old j y hj hy;rw[woken_quitsD hqj,upd_ne q k (Ne.symm hji),Deaf_other t hji _ (fun op hop=>by obtain⟨e,_,rfl⟩:=Go.Conc.mem_ofEvents hop;rfl)];exact hqj
theorem ends_beside(hL:∀ w d,L w→L (w.at d)){gs:Array Goroutine}{a:Goroutine}{w:World}{sl:Option (Nat×Nat)}{t:Trace}{q:Nat→Nat}{M:Loc→Prop}(h0:gs[0]? = some a)(hLv:Leavers P t gs q)(hP:PastX Shun t)(hC:Clear Shun M S w)
  (hE:∀ w1,Rely L (fun l=>M l∨S l) w w1→AtEndX P Post M S a w1) :
  ∃ N last o w' t',runNT P (N+1) (crowd gs w sl) t=(.ended o w',t')∧runN P N (crowd gs w sl)=.next last∧Go.step P last=.ended o w'∧Go.Conc.Good P Post last o w' t':=
 run_of_inv Nat.lt_wfRel.wf (EInv P Shun S L Post) (Go.Conc.Good P Post) (ends_step hL) _ _ _ ⟨gs,a,w,sl,q,M,rfl,h0,hLv,hP,hC,hE,rfl⟩
end
theorem run_then{P:Program}{N K:Nat}{m m' last:Machine}{t t' t'':Trace}{o:Outcome}{w':World}(h:runNT P N m t=(.next m',t'))(h1:runNT P (K+1) m' t'=(.ended o w',t''))(h2:runN P K m'=.next last) :
  runNT P (N+K+1) m t=(.ended o w',t'')∧runN P (N+K) m=.next last:=by
 constructor
 ·rw[Nat.add_assoc,runNT_add,h];exact h1
 ·rw[runN_add,runN_of_NT h];exact h2
section
variable {p:Tab}{pl:T (T (List Phase))}{b:Frame}{bot:List Frame}
def AtRet(P:Program)(Post:Value→World→Prop)(g:Goroutine)(w:World):Prop:=g.status=.running∧∃ v,stepG P true g w=.ended (.done v) w #[]∧Post v w
theorem whole_ends(hp:TabOk p){xl:L}{v:Value}{hA:AHeap}(hd:stepL p pl xl=.done v hA)(hdf:xl.s.fr.deferred=false)(hv:closed 1 v=true){w0:World}{Wg:Nat}{gs:Array Goroutine}{a:Goroutine}{w:World}{sl:Option (Nat×Nat)}{t:Trace}{q:Nat→Nat}{M:Loc→Prop}
  (hE:AtEndOf p pl (b::bot) xl w0 Wg gs a w t q M) {Post:Value→World→Prop} {n:Nat}
  (hfin:∀ w',Env (OldL w0) w0 w'→Goes p.prog true (fun w w1=>Env (OldL w0) w w1) DC0 (AtRet p.prog Post) n (G (b.finish v) bot) w') :
  ∃ N last o w' t',runNT p.prog (N+1) (crowd gs w sl) t=(.ended o w',t')∧runN p.prog N (crowd gs w sl)=.next last∧Go.step p.prog last=.ended o w'∧Go.Conc.Good p.prog Post last o w' t':=by
 obtain⟨hx,hs⟩:=stepL_done hd;obtain⟨f,hlast⟩:=hE.last;rw[hx] at hlast;have hG:GoesX p.prog true (fun l=>l=Loc.obj Wg∨OldL w0 l) (fun _=>True) (fun _ g w=>AtRet p.prog Post g w) (n+1) M a w:=by
  refine .step hlast.running fun w1 h1=>?_
  have hr:SRel f M (fun l=>l=Loc.obj Wg) (b::bot) xl.s a w1:=(hlast.flat).env (h1.1.mono fun l hl=>hl.imp id .inl);obtain⟨v',w',es,M',f',k1,k2,k3,k4,k5,k6⟩:=done_sound (main:=true) hp hs hdf hr;obtain rfl:=k3.eq_of_closed hv;have hfr:=(hE.frame.rely (fun _ h=>.inr h) h1).did k4;exact⟨_,_,_,_,k1,k4.wide (fun _ h=>.inl h),goesX_of_still (fun _ h=>.inr h) n (hfin w' hfr.2) fun _ _ h=>h.1⟩
 obtain⟨N,gs',a',w',sl',t',q',M',hrun,hsz,ha,hQ,hLv,hP,hC⟩:=goesX_beside (P:=p.prog) (Shun:=ShN Wg) (L:=fun _=>True) (fun _ _ h=>h) (fun M g w h=>(h w (.refl _ _ w)).1) _ (n+1) gs a w sl t q M (Nat.le_refl _) hE.first hE.leave hE.past hE.clear hG.stable;obtain⟨K,last,o,w2,t2,h1,h2,h3,h4⟩:=ends_beside (sl:=sl') (Post:=Post) (fun _ _ h=>h) ha hLv hP hC (fun w1 hr=>let⟨e1,v,e2,e3⟩:=hQ w1 hr;⟨e1,v,#[],e2,fun e he=>by simp at he,e3⟩);obtain⟨r1,r2⟩:=run_then hrun h1 h2;exact⟨N+K,last,o,w2,t2,r1,r2,h3,h4⟩
end
end Go.Cx
namespace Go.Cx
open Go.Conc Go.ConcN Go.Conc.Lib Go.ConcR.Gen Go.ConcN.Gen
open Go.ConcR (KK wgBlock WgAt stA smA rd wr mk Payload DC0)
section
variable {p:Tab}{pl:T (T (List Phase))}{Lk:WgLink}{c:Cfg}{b:Frame}{bot:List Frame}
theorem whole_run(H:WgLib p.prog Lk)(hp:TabOk p)(hmix:p.prog.follows .mixedOrders=true)(hadd:c.add=Lk.add)(hdone:c.done=Lk.done)(hwait:c.wait=Lk.wait)(hn0:0<c.n)(hn:c.n<2147483647)
  {x0 x1 y0 y xl:L} {m1 m2:Nat} {vals:List (List Value)} {h2 hA:AHeap} {v:Value} (e1:zy p pl m1 x0 x1) (e2:zpc p c Lk.tWg x1=some y0) (e3:readyA c y0 (demoteA c y0.s.h)=true)
  (e4:startsA p pl c c.n 0 ⟨{y0.s with h:=demoteA c y0.s.h},none,[]⟩=some (vals,y)) (e5:fillA c vals y.s.h=some h2) (hw:zy p pl m2 ⟨{y.s with h:=h2},none,[]⟩ xl)
  (hd:stepL p pl xl=.done v hA) (hdf:xl.s.fr.deferred=false) (hv:closed 1 v=true)
  {f:Inj} {M:Loc→Prop} {a:Goroutine} {w:World} {sl:Option (Nat×Nat)} {t:Trace} (ht:Lone t) (hM:∀ l,¬ M l) (hr:XRel f M (fun _=>False) (b::bot) x0 a w)
  {Post:Value→World→Prop} {n:Nat} (hfin:∀ w',Env (OldL w) w w'→Goes p.prog true (fun w0 w1=>Env (OldL w) w0 w1) DC0 (AtRet p.prog Post) n (G (b.finish v) bot) w') :
  ∃ N last o w' t',runNT p.prog (N+1) (crowd #[a] w sl) t=(.ended o w',t')∧runN p.prog N (crowd #[a] w sl)=.next last∧Go.step p.prog last=.ended o w'∧Go.Conc.Good p.prog Post last o w' t':=by
 obtain⟨Wg,N,gs,a',w',sl',t',q,M',hrun,hE⟩:=whole_sound (sl:=sl) (t:=t) H hp hmix hadd hdone hwait hn0 hn e1 e2 e3 e4 e5 hw ht hM hr;obtain⟨K,last,o,w2,t2,h1,h2,h3,h4⟩:=whole_ends (sl:=sl') hp hd hdf hv hE hfin;obtain⟨r1,r2⟩:=run_then hrun h1 h2;exact⟨N+K,last,o,w2,t2,r1,r2,h3,h4⟩
end
end Go.Cx
end
section
namespace Go.Cx
def subC:Code→Nat→Code
 |.seq a _,0=>a
 |.seq _ b,_=>b
 |.cond _ a _,0=>a
 |.cond _ _ b,_=>b
 |.block _ c,_=>c
 |.loop c,_=>c
 |.scope c,_=>c
 |.rangeFunc _ _ a _,0=>a
 |.rangeFunc _ _ _ b,_=>b
 |c,_=>c
def codeAt:Code→List Nat→Code
 |c,[]=>c
 |c,i::l=>codeAt (subC c i) l
def opsOfC:Code→Array Oper
 |.region _ ops _=>ops
 |_=>#[]
def bodyOf(p:Tab)(k:Nat):Code:=match p.funcs.get k with|some f=>(match f.body with|some c=>c|none=>.skip)|none=>.skip
def cAt(p:Tab)(k:Nat)(l:List Nat):Code:=codeAt (bodyOf p k) l
def oAt(p:Tab)(k:Nat)(l:List Nat):Array Oper:=opsOfC (cAt p k l)
def opN(ops:Array Oper)(i:Nat):Oper:=match dropN ops.toList i with|o::_=>o | []=>default
def regAt(p:Tab)(k:Nat)(l:List Nat)(i:Nat):AI:=.reg (oAt p k l) i (dropN (oAt p k l).toList i)
def mkT{α:Type}(l:List (Nat×α)):T α:=l.foldl (fun t x=>t.set x.1 x.2) .e
def vI(n:Int):Value:=.int .i64 n
def vP(b o:Nat):Value:=.pointer (some ⟨b,o,none⟩)
def vS(b o l c:Nat):Value:=.slice (some ⟨b,o,none⟩) l c
def vT:Value:=.bool true
def vF:Value:=.bool false
def oI(n:Int):Option Value:=some (.int .i64 n)
def oS(b o l c:Nat):Option Value:=some (.slice (some ⟨b,o,none⟩) l c)
def oP(b o:Nat):Option Value:=some (.pointer (some ⟨b,o,none⟩))
def oU:Option Value:=none
def row(b u:Nat)(c:List (Option Value)):Nat×AObj:=(b,.cells c u b 0 [b])
def zRa(p:Tab)(pl:T (T (List Phase)))(n:Nat)(l:List Nat)(m:Nat)(x:L):Option L:=
 match runL p pl n x with
 |.next y=>gcA l m y
 |_=>none
theorem zy.piece{p:Tab}{pl:T (T (List Phase))}{n m:Nat}{l:List Nat}{x y z:L}(h:zRa p pl n l m x=some y)(t:∃ k,zy p pl k y z):∃ k,zy p pl k x z:=by
 obtain⟨k,t⟩:=t;unfold zRa at h;split at h
 ·next y' e=>exact⟨_,.run e (.gc h t)⟩
 ·cases h
theorem zy.none{p:Tab}{pl:T (T (List Phase))}{x:L}:∃ k,zy p pl k x x:=⟨_,.refl x⟩
end Go.Cx
namespace Go.Cx
def T.keys{α:Type}:T α→List Nat
 |.e=>[]
 |.n l v r=>(match v with|some _=>[0]|none=>[])++(l.keys.map (fun k=>2*k+1)++r.keys.map (fun k=>2*k+2))
theorem T.keys_of{α:Type}:∀(t:T α) (k:Nat) (a:α),t.get k=some a→k∈t.keys
 |.e,k,a,h=>by rw[T.get_e] at h;cases h
 |.n l v r,k,a,h=>by
  simp only[T.keys,List.mem_append,List.mem_map];by_cases h0:k=0
  ·subst h0;rw[T.get_zero] at h;simp only[T.here] at h;subst h;exact .inl (by simp)
  ·by_cases h1:k % 2=1
   ·rw[T.get_odd _ _ h1] at h;exact .inr (.inl ⟨k / 2,T.keys_of l _ _ h,by omega⟩)
   ·rw[T.get_even _ _ h0 (by omega)] at h;exact .inr (.inr ⟨k / 2-1,T.keys_of r _ _ h,by omega⟩)
theorem table_ok{α:Type}{t:T α}{l:List α}(n:Nat)(hn:l.length=n)(hk:(t.keys.all fun k=>Nat.blt k n)=true)(he:(List.range n).map t.get=l.map some)(k:Nat)(a:α)(h:t.get k=some a):l[k]? = some a:=by
 have h1:=List.all_eq_true.1 hk k (T.keys_of t k a h);have h2:k<n:=Nat.le_of_ble_eq_true h1;have h3:=congrArg (fun x=>x[k]?) he;simp only[List.getElem?_map,List.getElem?_range h2,Option.map_some,h] at h3;cases e:l[k]? with
 |none=>rw[e] at h3;cases h3
 |some b=>rw[e] at h3;simpa using h3.symm
end Go.Cx
end
