/- Ground of proofs about package arrow: it says nothing by itself, without a condition. -/
import Derived.Test.YtpdmgecbapmgdaaGreatCx2
import Derived.Conc.CrowdTrace
import Derived.Conc.CrowdRun
set_option linter.unusedSimpArgs false
set_option linter.unusedVariables false
namespace Go.Cx
section
open Go.Conc (G)
variable {p:Tab}{f:Inj}{Mi Sh:Loc→Prop}{bot:List Frame}{main:Bool}{h h':AHeap}{w:World}
theorem fold_get:∀(l:List Value) (k:Nat) (t:T Value) (i:Nat),((l.zipIdx k).foldl (fun t x=>t.set x.2 x.1) t).get i=if k≤i∧i<k+l.length then l[i-k]? else t.get i
 | [],k,t,i=>by simp;intro h1 h2;omega
 |a::l,k,t,i=>by
  simp only[List.zipIdx_cons,List.foldl_cons];rw[fold_get l (k+1) _ i];by_cases h1:k+1≤i∧i<k+1+l.length
  ·rw[if_pos h1,if_pos (by simp only[List.length_cons];omega)];rw[show i-k=(i-(k+1))+1 by omega];rfl
  ·rw[if_neg h1,T.get_set];by_cases h2:i=k
   ·subst h2;rw[if_pos rfl,if_pos (by simp only[List.length_cons];omega)];simp
   ·rw[if_neg h2,if_neg (by simp only[List.length_cons];omega)]
theorem zib(hp:TabOk p){k:FuncId}{args:List Value}{args':Array Value}{deferred:Bool}{fr:AF}{kind:CallKind}(ha:VsRel f args args'.toList)(he:zIa p k args deferred=some fr)(hk:kind=if deferred then .deferred else .normal) :
  FRel f fr (Frame.enter p.prog k args' kind):=by
 unfold zIa at he;cases e1:p.funcs.get k with
 |none=>rw[e1] at he;cases he
 |some fn=>
  rw[e1] at he;simp only[] at he;cases e2:fn.body with
  |none=>rw[e2] at he;cases he
  |some c=>
   rw[e2] at he;simp only[] at he;cases e3:Nat.ble args.length fn.ntmps with
   |false=>rw[e3] at he;cases he
   |true=>
    rw[e3] at he;cases he;have hle:args.length≤fn.ntmps:=Nat.le_of_ble_eq_true e3;have hsz:args'.size=args.length:=by have:=ha.length;simp at this;omega
    have h1:=hp.funcs k fn e1;refine⟨⟨args'++Array.replicate (fn.ntmps-args'.size) undef,[.code c],[],none,?_,?_,fun i=>?_,.cons (.code c) .nil,.nil,.none⟩⟩
    ·simp[Frame.enter,h1,e2,realF,hk]
    ·simp;omega
    ·rw[fold_get];by_cases hi:i<args.length
     ·rw[if_pos (by omega)];rcases ha.get' i with⟨a1,_⟩|⟨v,v',a1,a2,a3⟩
      ·rw[List.getElem?_eq_none_iff] at a1;omega
      ·have:(args'++Array.replicate (fn.ntmps-args'.size) undef).getD i undef=v':=by
        rw[Array.getD_eq_getD_getElem?,Array.getElem?_append_left (by omega)];have:args'[i]? = some v':=by simpa using a2
        rw[this];rfl
       rw[this];simp only[Nat.sub_zero,a1,Option.getD_some];exact a3
     ·rw[if_neg (by omega)];have:(args'++Array.replicate (fn.ntmps-args'.size) undef).getD i undef=undef:=by rw[Array.getD_eq_getD_getElem?,Array.getElem?_append_right (by omega),Array.getElem?_replicate];split<;>rfl
      rw[this,T.get_e];exact .tuple .nil
theorem load_still(hp:TabOk p)(hr:HRel f (fun l=>Mi l∨Sh l) Mi h w){t:TypeId}{a a' v:Value}(ha:VRel f a a')(ho:oLoad p h t a=some (v,h')) :
  ∃ v' b,a'=.pointer (some b)∧(loadVar t b).run p.prog w=.ok v' w∧VRel f v v'∧∀ es,∀ ev∈(loadVar t b).events p.prog w es,ev∈es∨EvIn Mi Sh ev:=by
 cases ha with
 |ptr hb=>
  rename_i b off x;simp only[oLoad] at ho;split at ho
  ·next n e1 e2=>
   cases e3:h.read b off n with
   |none=>rw[e3] at ho;cases ho
   |some l=>
    rw[e3] at ho;cases ho;obtain⟨l',k1,k2,_,k3,k4⟩:=cells_read p.prog hr hb e3;refine⟨.agg l'.toArray,⟨x.blk,x.off+off,none⟩,rfl,?_,.agg (by simpa using k1),fun es ev hev=>?_⟩
    ·simp only[loadVar,Sem.run_bind,zQ hp w e1,Result.andThen_ok,if_true,zh hp w e2,k3 w rfl,Sem.run_pure]
    ·simp only[loadVar,Sem.events_bind,zQ hp w e1,events_isAgg,Result.evThen_ok,if_true,zh hp w e2,events_sizeOf,k3 w rfl,Sem.events_pure] at hev;exact k4 w rfl es ev hev
  ·next sz e1=>
   cases e3:h.read b off 1 with
   |none=>rw[e3] at ho;cases ho
   |some l=>
    rw[e3] at ho;obtain⟨hl,rc,e,l',k1,k2,k3,k4⟩:=zUb hr hb e3
    match l,l',hl,k2 with
    | [v0],[v1],_,.cons hv _=>
     cases ho;have hc:w.cell? ⟨x.blk,x.off+off,none⟩=some v1:=by rw[cell?_plain k1];simpa using k3 0 v1 rfl
     refine⟨v1,⟨x.blk,x.off+off,none⟩,rfl,?_,hv,fun es ev hev=>?_⟩
     ·simp only[loadVar,Sem.run_bind,zQ hp w e1,Result.andThen_ok,Bool.false_eq_true,if_false,run_load,hc]
     ·simp only[loadVar,Sem.events_bind,zQ hp w e1,events_isAgg,Result.evThen_ok,Bool.false_eq_true,if_false,events_load,hc,Array.mem_push] at hev;rcases hev with h1|rfl
      ·exact .inl h1
      ·refine .inr (.inr ⟨rfl,?_⟩);have:=k4 0 (by omega);exact this.elim .inl fun hs=>.inr ⟨rfl,hs⟩
  ·cases ho
 |_=>simp[oLoad] at ho
def resOne(tmps:Array Value):ResultVar→Sem Value
 |.tmp t=>pure (tmps.getD t undef)
 |.cell a t=>do loadVar t (←asAddr (tmps.getD a undef))
theorem resultsList_sound(hp:TabOk p)(hr:HRel f (fun l=>Mi l∨Sh l) Mi h w){fr:AF}{tmps:Array Value}(ht:TRel f fr.tmps tmps):∀{rs:List ResultVar} {vs:List Value},resultsList p fr h rs=some vs →
  ∃ vs',VsRel f vs vs'∧(rs.mapM (resOne tmps)).run p.prog w=.ok vs' w∧∀ es,∀ ev∈(rs.mapM (resOne tmps)).events p.prog w es,ev∈es∨EvIn Mi Sh ev
 | [],vs,e=>by simp[resultsList] at e;subst e;exact⟨[],.nil,rfl,fun es ev hev=>.inl hev⟩
 |.tmp t::rs,vs,e=>by
  simp only[resultsList] at e;split at e
  ·next l el=>
   cases e;obtain⟨vs',h1,h2,h3⟩:=resultsList_sound hp hr ht el;refine⟨_::vs',.cons (ht t) h1,?_,fun es ev hev=>?_⟩
   ·rw[List.mapM_cons];simp[resOne,h2]
   ·rw[List.mapM_cons] at hev;simp[resOne,h2] at hev;exact h3 es ev hev
  ·cases e
 |.cell a t::rs,vs,e=>by
  simp only[resultsList] at e;split at e
  ·next v l ev el=>
   cases e;obtain⟨vs',h1,h2,h3⟩:=resultsList_sound hp hr ht el;unfold loadResult at ev;split at ev
   ·next u hu eo=>
    cases ev;obtain⟨v',b,k1,k2,k3,k4⟩:=load_still hp hr (ht a) eo;refine⟨v'::vs',.cons k3 h1,?_,fun es ev hev=>?_⟩
    ·rw[List.mapM_cons];simp[resOne,k1,asAddr,k2,h2]
    ·rw[List.mapM_cons] at hev;simp[resOne,k1,asAddr,k2,h2] at hev;rcases h3 _ ev hev with h|h
     ·exact k4 es ev h
     ·exact .inr h
   ·cases ev
  ·cases e
theorem results_sound(hp:TabOk p)(hr:HRel f (fun l=>Mi l∨Sh l) Mi h w){fr:AF}{tmps:Array Value}(ht:TRel f fr.tmps tmps){v:Value}(hv:zTb p fr h=some v) :
  ∃ fn v',p.prog.funcs[fr.fn]? = some fn∧VRel f v v'∧(results fn tmps).run p.prog w=.ok v' w∧∀ ev∈(results fn tmps).events p.prog w #[],EvIn Mi Sh ev:=by
 unfold zTb at hv;cases e1:p.funcs.get fr.fn with
 |none=>rw[e1] at hv;cases hv
 |some fn=>
  rw[e1] at hv;simp only[] at hv;have hmap:∀ tmps:Array Value,results fn tmps=(do
    let vs ←Functor.map List.toArray (fn.results.toList.mapM (resOne tmps))
    pure (if h:vs.size=1 then vs[0] else .tuple vs)):=by
   intro tmps;unfold results;have:(fn.results.mapM fun
     |.tmp t=>pure (tmps.getD t undef)
     |.cell a t=>do loadVar t (←asAddr (tmps.getD a undef)):Sem (Array Value))=Functor.map List.toArray (fn.results.toList.mapM (resOne tmps)):=by
    rw[←Array.toArray_toList (xs:=fn.results),List.mapM_toArray];rfl
   rw[←this];rfl
  split at hv
  ·next v0 el=>
   cases hv;obtain⟨vs',h1,h2,h3⟩:=resultsList_sound hp hr ht el;cases h1 with
   |cons hv0 t=>
   cases t;rename_i v1;refine⟨fn,v1,hp.funcs _ _ e1,hv0,?_,fun ev hev=>?_⟩
   ·rw[hmap];simp[h2]
   ·rw[hmap] at hev;simp[h2] at hev;exact(h3 _ ev hev).resolve_left (by simp)
  ·next vs hne el=>
   cases hv;obtain⟨vs',h1,h2,h3⟩:=resultsList_sound hp hr ht el;have hlen:vs'.length≠1:=by
    intro e;have:=h1.length;rw[e] at this
    match vs,this,hne with
    | [v],_,hne=>exact hne v rfl
   refine⟨fn,.tuple vs'.toArray,hp.funcs _ _ e1,.tuple (by simpa using h1),?_,fun ev hev=>?_⟩
   ·rw[hmap];simp[h2,hlen]
   ·rw[hmap] at hev;simp[h2] at hev;exact(h3 _ ev hev).resolve_left (by simp)
  ·cases hv
end
section
open Go.Conc (G)
variable {p:Tab}{f:Inj}{Mi Sh:Loc→Prop}{bot:List Frame}{main:Bool}{h h':AHeap}{w:World}
theorem wanted_rel{ops:Array Oper}{fr:AF}{tmps:Array Value}(ht:TRel f fr.tmps tmps)(o:Oper):Region.wanted o (yielded ops tmps)=zX ops fr o:=by
 unfold Region.wanted zX;cases eg:o.guard with
 |none=>rfl
 |some jw=>
  obtain⟨j,want⟩:=jw;simp only[yielded];cases eq:ops[j]? with
  |none=>simp
  |some q=>
   simp only[Option.bind_some];cases ed:q.dst with
   |none=>simp
   |some d=>
    simp only[Option.bind_some];have hd:=ht d;cases eget:fr.tmps.get d with
    |none=>
     rw[eget] at hd;simp only[Option.getD_none] at hd;cases et:tmps[d]? with
     |none=>simp
     |some v=>
      have:tmps.getD d undef=v:=by rw[Array.getD_eq_getD_getElem?,et];rfl
      rw[this] at hd;cases hd;simp
    |some u=>
     rw[eget] at hd;simp only[Option.getD_some] at hd;cases et:tmps[d]? with
     |none=>
      have:tmps.getD d undef=undef:=by rw[Array.getD_eq_getD_getElem?,et];rfl
      rw[this] at hd;cases hd;simp
     |some v=>
      have:tmps.getD d undef=v:=by rw[Array.getD_eq_getD_getElem?,et];rfl
      rw[this] at hd;cases hd<;>simp
theorem setMany_rel{nt:Nat}:∀{ts:List Tmp} {vs:List Value} {m t':T Value} {vs':List Value} {a:Array Value},setParams nt ts vs m=some t'→VsRel f vs vs'→a.size=nt→TRel f m a →
  TRel f t' ((ts.zip vs').foldl (fun tmps (x:Tmp×Value)=>tmps.setIfInBounds x.1 x.2) a)∧((ts.zip vs').foldl (fun tmps (x:Tmp×Value)=>tmps.setIfInBounds x.1 x.2) a).size=nt
 | [],[],m,t',vs',a,h,hv,hs,ht=>by cases h;cases hv;exact⟨ht,hs⟩
 |t::ts,v::vs,m,t',vs',a,h,hv,hs,ht=>by
  simp only[setParams] at h;cases eb:Nat.blt t nt with
  |false=>rw[eb] at h;cases h
  |true=>
   rw[eb] at h;cases hv with
   |cons hv0 tv=>
    have hlt:t<a.size:=by rw[hs];exact Nat.lt_of_succ_le (by simpa[Nat.blt] using eb)
    simp only[List.zip_cons_cons,List.foldl_cons];exact setMany_rel h tv (by simpa using hs) (ht.set hv0 hlt)
 | [],_::_,_,_,_,_,h,_,_,_=>by cases h
 |_::_,[],_,_,_,_,h,_,_,_=>by cases h
section
variable {s s':S}{ops:Array Oper}{i:Nat}{o:Oper}{rest:List Oper}{k:List AI}{k':List Item}{tmps:Array Value}{defers:List Deferred}{round:Option Nat}{cs:List Frame}
theorem stepG_at(hret:s.fr.ret=false)(ho:ops[i]? = some o)(hw:Region.wanted o (yielded ops tmps)=true)(hdef:∀ c,o.op=.defer c→round=none) :
  stepG p.prog main (G (realF s.fr tmps (.inRegion ops (List.range' i (o::rest).length)::k') defers round) cs) w =
   stepG.apply p.prog true (realF s.fr tmps (.inRegion ops (List.range' i (o::rest).length)::k') defers round) cs none (execOp (realF s.fr tmps (.inRegion ops (List.range' i (o::rest).length)::k') defers round).eval o) w:=by
 have hop:(realF s.fr tmps (.inRegion ops (List.range' i (o::rest).length)::k') defers round).oper? = some o:=by simp only[Frame.oper?,realF,List.length_cons,List.range'_succ,ho]
 simp only[G,stepG];have hmode:(realF s.fr tmps (.inRegion ops (List.range' i (o::rest).length)::k') defers round).mode=.run:=by simp[realF,hret]
 rw[hmode];simp only[stepG.exec,realF,List.length_cons,List.range'_succ,ho,Option.map_some,Option.getD_some,hw,if_true,stepG.oper];have hop':=hop;simp only[realF,List.length_cons,List.range'_succ] at hop';rw[hop'];simp only[];split
 ·next l c e1 e2=>
  have:=hdef _ e2
  simp_all
 ·rfl
def outcome(p:Program)(fr:Frame)(cs:List Frame)(w:World):Next→GStep
 |.value v=>.go (G (fr.finish v) cs) w #[]
 |.skip=>.go (G (fr.finish undef) cs) w #[]
 |.enter f args=>.go (G (Frame.enter p f args .normal) (fr::cs)) w #[]
 |.round l f tmps assign body=>.go (G (Frame.round l f tmps assign body .normal) (fr::cs)) w #[]
 |.defer d=>.go (G ({fr with defers:=d::fr.defers}.finish undef) cs) w #[]
 |_=>.ended (.stuck "" "") w
theorem zba{fr:AF}{it:Item}{sm:Sem Next}{r':Next}{w':World}(hit:∀ d b r sv,it≠.call d b r sv)(hrun:sm.run p.prog w=.ok r' w')(hr:(∃ v,r'=.value v)∨r'=.skip∨(∃ f a,r'=.enter f a)∨(∃ l f t a b,r'=.round l f t a b)∨(∃ d,r'=.defer d)) :
  stepG.apply p.prog true (realF fr tmps (it::k') defers round) cs none sm w=GStep.after (seen p.prog fr.fn (sm.events p.prog w #[])) (outcome p.prog (realF fr tmps (it::k') defers round) cs w' r'):=by
 have hk:((if fr.deferred then CallKind.deferred else CallKind.normal)==CallKind.early)=false:=by cases fr.deferred<;>rfl
 have hkind:(match (it::k':List Item) with|.call _ true _ _::_=>CallKind.wrapped|_=>.normal)=.normal:=by cases it<;>first|rfl|exact absurd rfl (hit _ _ _ _)
 rcases hr with⟨v,rfl⟩|rfl|⟨fn,a,rfl⟩|⟨l,fn,t,a,b,rfl⟩|⟨d,rfl⟩ <;>
  simp[stepG.apply,hrun,realF,hk,outcome,G,-Sem.events_bind]<;>(try (cases it<;>first|rfl|exact absurd rfl (hit _ _ _ _)))
theorem apply_recover{fr:Frame}{cs:List Frame}{sm:Sem Next}{w':World}(hk:(fr.kind==CallKind.early)=false)(hround:fr.roundOf=none)(hrec:tryRecover fr cs=none)(hrun:sm.run p.prog w=.ok .recover w') :
  stepG.apply p.prog true fr cs none sm w=GStep.after (seen p.prog fr.fn (sm.events p.prog w #[])) (.go (G (fr.finish .nilIface) cs) w' #[]):=by
 simp[stepG.apply,hrun,hk,hround,hrec,G,-Sem.events_bind]
theorem finish_at{fr:AF}(ho:ops[i]? = some o)(v:Value):(realF fr tmps (.inRegion ops (List.range' i (o::rest).length)::k') defers round).finish v=realF fr (putDst o.dst tmps v) (.inRegion ops (List.range' (i+1) rest.length)::k') defers round:=by simp only[List.length_cons,List.range'_succ,Frame.finish,realF,ho,Option.bind_some];unfold putDst;cases o.dst<;>rfl
theorem opA_sound(hp:TabOk p)(hret:s.fr.ret=false)(hdrop:o::rest=ops.toList.drop i)(hw:Region.wanted o (yielded ops tmps)=true)(hsz:tmps.size=s.fr.nt)(ht:TRel f s.fr.tmps tmps)(hk:IsRel f k k')(hd:DsRel f s.fr.defers defers)(hro:RoRel f s.fr.round round)
  (hcs:FsRel f s.cs cs) (hr:HRel f (fun l=>Mi l∨Sh l) Mi s.h w) (htodo:s.fr.todo=.reg ops i (o::rest)::k) (hop:opA p s ops i o rest k=.next s') :
  Adv p.prog main f Mi Sh bot s.h (G (realF s.fr tmps (.inRegion ops (List.range' i (o::rest).length)::k') defers round) (cs++bot)) w s':=by
 obtain⟨ho,hrest⟩:=zna hdrop;obtain⟨sfr,scs,sh⟩:=s;simp only[] at *;unfold opA at hop;simp only[] at hop;have hev:=ht.ev (fr:=realF sfr tmps (.inRegion ops (List.range' i (o::rest).length)::k') defers round) rfl;cases ea:aop p sh sfr.ev o with
 |none=>rw[ea] at hop;cases hop
 |some r=>
  rw[ea] at hop;obtain⟨r',w',f',Mi',h1,h2,h3,h4,h5,h6⟩:=aop_sound (w:=w) hp hr hev ea;have hdefer:∀ c,o.op=.defer c→round=none:=by
   intro c hc;cases r with
   |defer d h1=>
    simp only[] at hop;cases er:sfr.round with
    |none=>rw[er] at hro;cases hro;rfl
    |some l=>rw[er] at hop;cases hop
   |_=>
    exfalso;unfold aop at ea;rw[hc] at ea;simp only[] at ea;split at ea
    ·split at ea<;>cases ea
    ·cases ea
  have hst:=stepG_at (p:=p) (main:=main) (s:=⟨sfr,scs,sh⟩) (rest:=rest) (k':=k') (cs:=cs++bot) (w:=w) (defers:=defers) hret ho hw hdefer;simp only[] at hst;cases h3 with
  |val hv=>
   rename_i v v' h;simp only[OpR.heap] at h5 h6;simp only[] at hop;cases es:zta sfr o v (.reg ops i.succ rest::k) with
   |none=>rw[es] at hop;cases hop
   |some fr=>rw[es] at hop;cases hop;obtain⟨q1,q2⟩:=zCa (f:=f') es hv hsz (ht.mono h2) (k':=.inRegion ops (List.range' (i+1) rest.length)::k') (.cons (.reg hrest) (hk.mono h2)) (hd.mono h2) (hro.mono h2);refine⟨_,w',_,Mi',f',?_,h2,h4.seen p.prog sfr.fn,⟨⟨_,_,rfl,q1,hcs.mono h2⟩,h5⟩,h6⟩;rw[hst,zba (fun _ _ _ _ h=>by cases h) h1 (.inl ⟨v',rfl⟩)];simp only[outcome,finish_at ho,GStep.after,Array.append_empty]
  |skip=>
   rename_i h;simp only[OpR.heap] at h5 h6;simp only[] at hop;cases es:zta sfr o undef (.reg ops i.succ rest::k) with
   |none=>rw[es] at hop;cases hop
   |some fr=>rw[es] at hop;cases hop;obtain⟨q1,q2⟩:=zCa (f:=f') es (v':=undef) (.tuple .nil) hsz (ht.mono h2) (k':=.inRegion ops (List.range' (i+1) rest.length)::k') (.cons (.reg hrest) (hk.mono h2)) (hd.mono h2) (hro.mono h2);refine⟨_,w',_,Mi',f',?_,h2,h4.seen p.prog sfr.fn,⟨⟨_,_,rfl,q1,hcs.mono h2⟩,h5⟩,h6⟩;rw[hst,zba (fun _ _ _ _ h=>by cases h) h1 (.inr (.inl rfl))];simp only[outcome,finish_at ho,GStep.after,Array.append_empty]
  |call ha=>
   rename_i kf args args' h;simp only[OpR.heap] at h5 h6;simp only[] at hop;cases es:zIa p kf args false with
   |none=>rw[es] at hop;cases hop
   |some fr=>rw[es] at hop;cases hop;have q1:=zib hp (kind:=.normal) ha es rfl;have qself:FRel f' sfr (realF sfr tmps (.inRegion ops (List.range' i (o::rest).length)::k') defers round):=⟨_,_,_,_,rfl,hsz,ht.mono h2,by rw[htodo];exact .cons (.reg hdrop) (hk.mono h2),hd.mono h2,hro.mono h2⟩;refine⟨_,w',_,Mi',f',?_,h2,h4.seen p.prog sfr.fn,⟨⟨_,_::cs,rfl,q1,.cons qself (hcs.mono h2)⟩,h5⟩,h6⟩;rw[hst,zba (fun _ _ _ _ h=>by cases h) h1 (.inr (.inr (.inl ⟨_,_,rfl⟩)))];simp only[outcome,GStep.after,Array.append_empty,List.cons_append]
  |yield hl ha hol hrl hn=>
   rename_i l x args args' h al l';simp only[OpR.heap] at h5 h6;simp only[hol] at hop;cases es:setParams al.nt al.params.toList args al.tmps with
   |none=>rw[es] at hop;cases hop
   |some t=>
    rw[es] at hop;cases hop;obtain⟨q1,q2⟩:=setMany_rel es ha hrl.size hrl.tmps;have qself:FRel f' sfr (realF sfr tmps (.inRegion ops (List.range' i (o::rest).length)::k') defers round):=⟨_,_,_,_,rfl,hsz,ht.mono h2,by rw[htodo];exact .cons (.reg hdrop) (hk.mono h2),hd.mono h2,hro.mono h2⟩;have hfold:((l'.params.zip args').foldl (fun tmps (x:Tmp×Value)=>tmps.setIfInBounds x.1 x.2) l'.tmps)=((al.params.toList.zip args'.toList).foldl (fun tmps (x:Tmp×Value)=>tmps.setIfInBounds x.1 x.2) l'.tmps):=by rw[hrl.params,←Array.foldl_toList,Array.toList_zip]
    refine⟨_,w',_,Mi',f',?_,h2,h4.seen p.prog sfr.fn,⟨⟨_,_::cs,rfl,⟨(al.params.toList.zip args'.toList).foldl (fun tmps (x:Tmp×Value)=>tmps.setIfInBounds x.1 x.2) l'.tmps,[.code al.assign,.beginRound,.code al.body],[],some x.blk,rfl,?_,?_,.cons (.code _) (.cons .beginRound (.cons (.code _) .nil)),.nil,.some hl⟩,.cons qself (hcs.mono h2)⟩,h5⟩,h6⟩
    ·rw[hst,zba (fun _ _ _ _ h=>by cases h) h1 (.inr (.inr (.inr (.inl ⟨_,_,_,_,_,rfl⟩))))];rw[←hfold];simp only[outcome,GStep.after,Array.append_empty,List.cons_append,Frame.round,realF,hrl.fn,hrl.assign,hrl.body];rfl
    ·exact q2
    ·exact q1
  |defer hdd=>
   rename_i d d' h;simp only[OpR.heap] at h5 h6;simp only[] at hop;cases es:zta {sfr with defers:=d::sfr.defers} o undef (.reg ops i.succ rest::k) with
   |none=>rw[es] at hop;cases er:sfr.round<;>rw[er] at hop<;>cases hop
   |some fr=>
    rw[es] at hop;cases er:sfr.round with
    |some l=>rw[er] at hop;cases hop
    |none=>
     rw[er] at hop;cases hop;obtain⟨q1,q2⟩:=zCa (f:=f') es (v':=undef) (.tuple .nil) hsz (ht.mono h2) (k':=.inRegion ops (List.range' (i+1) rest.length)::k') (.cons (.reg hrest) (hk.mono h2)) (.cons hdd (hd.mono h2)) (hro.mono h2);refine⟨_,w',_,Mi',f',?_,h2,h4.seen p.prog sfr.fn,⟨⟨_,_,rfl,q1,hcs.mono h2⟩,h5⟩,h6⟩;rw[hst,zba (fun _ _ _ _ h=>by cases h) h1 (.inr (.inr (.inr (.inr ⟨_,rfl⟩))))];have:({realF sfr tmps (.inRegion ops (List.range' i (o::rest).length)::k') defers round with defers:=d'::defers}:Frame)=realF {sfr with defers:=d::sfr.defers} tmps (.inRegion ops (List.range' i (o::rest).length)::k') (d'::defers) round:=rfl
     show GStep.after _ (.go (G (Frame.finish ({realF sfr tmps (.inRegion ops (List.range' i (o::rest).length)::k') defers round with defers:=d'::defers}:Frame) undef) (cs++bot)) w' #[])=_;rw[this,finish_at ho];simp only[GStep.after,Array.append_empty]
  |recover=>
   rename_i h;simp only[OpR.heap] at h5 h6;simp only[] at hop;cases er:sfr.round with
   |some l=>rw[er] at hop;cases hop
   |none=>
    have hround:round=none:=by rw[er] at hro;cases hro;rfl
    rw[er] at hop;cases ed:sfr.deferred with
    |false=>rw[ed] at hop;cases hop
    |true=>
     rw[ed] at hop;cases hcs with
     |nil=>cases hop
     |cons hc tc=>
      rename_i c cf l l';simp only[] at hop;cases ecr:c.ret with
      |false=>rw[ecr] at hop;cases hop
      |true=>
       rw[ecr] at hop;simp only[] at hop;cases es:zta sfr o .nilIface (.reg ops i.succ rest::k) with
       |none=>rw[es] at hop;cases hop
       |some fr=>
        rw[es] at hop;cases hop;obtain⟨q1,q2⟩:=zCa (f:=f') es (v':=.nilIface) .nilIface hsz (ht.mono h2) (k':=.inRegion ops (List.range' (i+1) rest.length)::k') (.cons (.reg hrest) (hk.mono h2)) (hd.mono h2) (hro.mono h2);obtain⟨ct,ctodo,cd,cro,rfl,crest⟩:=hc.ex;refine⟨_,w',_,Mi',f',?_,h2,h4.seen p.prog sfr.fn,⟨⟨_,_::l',rfl,q1,.cons (FRel.mono h2 ⟨ct,ctodo,cd,cro,rfl,crest⟩) (tc.mono h2)⟩,h5⟩,h6⟩;rw[hst];subst hround;have hrec:tryRecover (realF sfr tmps (.inRegion ops (List.range' i (o::rest).length)::k') defers none) (realF c ct ctodo cd cro::(l'++bot))=none:=by simp[tryRecover,realF,ed,ecr]
        have hk:((if sfr.deferred then CallKind.deferred else CallKind.normal)==CallKind.early)=false:=by rw[ed];rfl
        have hfin:=finish_at (k':=k') (tmps:=tmps) (defers:=defers) (round:=none) (fr:=sfr) (rest:=rest) ho .nilIface;rw[List.cons_append,apply_recover hk rfl hrec h1,hfin];simp only[GStep.after,Array.append_empty,List.cons_append];rfl
end
end
section
open Go.Conc (G)
variable {p:Tab}{f:Inj}{Mi Sh:Loc→Prop}{bot:List Frame}{main:Bool}{h h':AHeap}{w:World}
theorem DsRel.append{f:Inj}:∀{a a' b b':List Deferred},DsRel f a a'→DsRel f b b'→DsRel f (a++b) (a'++b')
 |_,_,_,_,.nil,h=>h
 |_,_,_,_,.cons h t,h'=>.cons h (t.append h')
section
variable {s s':S}{tmps:Array Value}{todo:List Item}{defers:List Deferred}{round:Option Nat}{cs:List Frame}
theorem retA_sound(hp:TabOk p)(hret:s.fr.ret=true)(hsz:tmps.size=s.fr.nt)(ht:TRel f s.fr.tmps tmps)(hk:IsRel f s.fr.todo todo)(hd:DsRel f s.fr.defers defers)(hro:RoRel f s.fr.round round)
  (hcs:FsRel f s.cs cs) (hr:HRel f (fun l=>Mi l∨Sh l) Mi s.h w) (hop:retA p s=.next s') :
  Adv p.prog main f Mi Sh bot s.h (G (realF s.fr tmps todo defers round) (cs++bot)) w s':=by
 obtain⟨sfr,scs,sh⟩:=s;simp only[] at *;unfold retA at hop;simp only[] at hop;have hmode:(realF sfr tmps todo defers round).mode=.returning:=by simp[realF,hret]
 generalize edd:sfr.defers=dd at hop hd;cases hd with
 |nil=>
  simp only[] at hop;cases er:zTb p sfr sh with
  |none=>rw[er] at hop;cases hop
  |some v=>
   rw[er] at hop;simp only[] at hop;obtain⟨fn,v',h1,h2,h3,h4⟩:=results_sound (w:=w) hp hr ht er;obtain⟨g',d1,d2,d3⟩:=pop_rel (p:=p) (main:=main) (bot:=bot) (fr:=realF sfr tmps todo [] round) hop h2 hcs hr rfl;refine⟨g',w,seen p.prog sfr.fn ((results fn tmps).events p.prog w #[]),Mi,f,?_,f.le_refl,(Did.still h4).seen _ _,d2,by rw[d3];exact .refl _ _⟩;have hst:stepG p.prog main (G (realF sfr tmps todo [] round) (cs++bot)) w=unwind p.prog main (realF sfr tmps todo [] round) (cs++bot) none w:=by simp[G,stepG,realF,hret]
   rw[hst];have hmode':(realF sfr tmps todo [] round).mode=.returning:=by simp[realF,hret]
   unfold unwind;have hdf:(realF sfr tmps todo [] round).defers=[]:=rfl;rw[hdf];simp only[];rw[hmode'];simp only[];have hfn:p.prog.funcs[(realF sfr tmps todo [] round).fn]? = some fn:=h1;rw[hfn];simp only[];rw[Sem.runT_eq];have htm:(realF sfr tmps todo [] round).tmps=tmps:=rfl;rw[htm,h3];simp only[];rw[d1];simp only[GStep.after,Array.append_empty];rfl
 |cons hd0 hds=>
  rename_i d d' ds ds';simp only[] at hop;have hst:stepG p.prog main (G (realF sfr tmps todo (d'::ds') round) (cs++bot)) w=unwind p.prog main (realF sfr tmps todo (d'::ds') round) (cs++bot) none w:=by simp[G,stepG,realF,hret]
  cases hd0 with
  |collected hb=>
   rename_i r x;simp only[] at hop;split at hop
   ·next calls e1 e2=>
    cases hop;obtain⟨o,o1,o2⟩:=hr.obj r x hb;rw[e1] at o1;cases o1;obtain⟨hx0,hK,calls',k1,k2⟩:=o2;have hMi:Mi (.obj x.blk):=hr.mine r x hb e2 _ rfl;obtain⟨g1,g2⟩:=getObj_any p.prog k1 (fun _ _ _ h=>by cases h) rfl;obtain⟨s1,s2⟩:=setObj_any p.prog (o':=.deferred none) k1 (fun _ _ _ h=>by cases h) rfl;have hput:=putObj_rel (o1:=.deferred none) hr hb e1 ⟨_,rfl⟩ (fun _ _ _ _ _ h=>by cases h) (w':={w with heap:=w.heap.setIfInBounds x.blk (.deferred none)}) rfl k1 fun w₂ h₂=>⟨hx0,hK,h₂⟩
    have erun:(Instr.takeDeferred x.blk).runT p.prog w #[]=(.ok calls' {w with heap:=w.heap.setIfInBounds x.blk (.deferred none)},#[⟨.obj x.blk,false,false⟩,⟨.obj x.blk,true,false⟩]):=by rw[Sem.runT_eq];simp only[Instr.takeDeferred,Sem.run_bind,Sem.events_bind,g1,g2,Result.andThen_ok,Result.evThen_ok,s1,s2,Sem.run_pure,Sem.events_pure];rfl
    refine⟨_,_,_,Mi,f,?_,f.le_refl,Did.seen (es:=#[⟨.obj x.blk,false,false⟩,⟨.obj x.blk,true,false⟩]) ⟨env_putObj rfl k1 (fun _ _ _ h=>by cases h) hMi,fun l=>?_,fun ev hev=>?_⟩ p.prog sfr.fn,⟨⟨_,_,rfl,⟨_,_,_,_,rfl,hsz,ht,hk,k2.append hds,hro⟩,hcs⟩,hput⟩,.put hb⟩
    ·rw[hst];unfold unwind;simp only[realF,erun,GStep.after,Array.append_empty,hret,if_true];rfl
    ·simp only[Array.size_setIfInBounds];exact⟨.inl,fun h=>h.elim id fun⟨b,_,h1,h2⟩=>absurd h2 (Nat.not_lt.2 h1)⟩
    ·simp at hev;rcases hev with rfl|rfl<;>exact .inr ⟨rfl,.inl hMi⟩
   ·cases hop
  |fn hfn h1 h2=>
   rename_i fnn c c' a a';cases fnn with
   |func gk=>
    simp only[] at hop;cases ec:zac p gk (a.toList++c.toList) sh with
    |none=>rw[ec] at hop;cases hop
    |some r=>
     rw[ec] at hop;have hc0:=ec;unfold zac at ec;cases e1:p.funcs.get gk with
     |none=>rw[e1] at ec;cases ec
     |some fn=>
      rw[e1] at ec;simp only[] at ec;cases e2:fn.body with
      |none=>rw[e2] at ec;cases ec
      |some cc=>
       rw[e2] at ec;cases ec;simp only[] at hop;cases ee:zIa p gk (a.toList++c.toList) true with
       |none=>rw[ee] at hop;cases hop
       |some fr=>
        rw[ee] at hop;cases hop;have hargs:VsRel f (a.toList++c.toList) (a'++c').toList:=by simpa using h2.append h1
        have q1:=zib hp (kind:=.deferred) hargs ee rfl;have hpf:=hp.funcs gk fn e1;have hnum:=hp.num gk fn e1;have einv:(invoke (.fn (.func gk) c') a').runT p.prog w #[]=(.ok (.enter gk (a'++c')) w,#[]):=by rw[Sem.runT_eq];simp[invoke,callFunc,hpf,hnum,e2]
        refine⟨_,w,_,Mi,f,?_,f.le_refl,Did.seen (es:=#[]) .quiet p.prog sfr.fn,⟨⟨_,_::cs,rfl,q1,.cons ⟨_,_,_,_,rfl,hsz,ht,hk,hds,hro⟩ hcs⟩,hr⟩,.refl _ _⟩;rw[hst];unfold unwind;simp[realF,callDeferred,einv,hret,GStep.after,G,-Sem.runT_eq]
   |_=>cases hop
end
theorem Did.trans{Mi Mi1 Mi2 Sh:Loc→Prop}{w w1 w2:World}{es1 es2:Array Event}(h1:Did Mi Sh w w1 es1 Mi1)(h2:Did Mi1 Sh w1 w2 es2 Mi2):Did Mi Sh w w2 (es1++es2) Mi2:=by
 refine⟨⟨Nat.le_trans h1.env.size h2.env.size,h2.env.tape.trans h1.env.tape,h2.env.os.trans h1.env.os,h2.env.output.trans h1.env.output,fun b o eo=>?_⟩,fun l=>?_,fun e he=>?_⟩
 ·have hb:b<w.heap.size:=(Array.getElem?_eq_some_iff.1 eo).1;have hn:∀ l,locBlk l=some b→¬ Mi l→¬ Mi1 l:=by
   intro l hl hm h;rcases(h1.mine l).1 h with h|⟨b',e1,e2,_⟩
   ·exact hm h
   ·rw[hl] at e1;cases e1;omega
  have a1:=h1.env.same b o eo;cases o with
  |cells c e fr=>obtain⟨c1,g1,g2,g3⟩:=a1;obtain⟨c2,k1,k2,k3⟩:=h2.env.same b _ g1;exact⟨c2,k1,k2.trans g2,fun i hi=>(k3 i (hn _ rfl hi)).trans (g3 i hi)⟩
  |pending c t=>exact fun hm=>h2.env.same b _ (a1 hm) (hn _ rfl hm)
  |view a t=>exact fun hm=>h2.env.same b _ (a1 hm) (hn _ rfl hm)
  |number a t=>exact fun hm=>h2.env.same b _ (a1 hm) (hn _ rfl hm)
  |map a t=>exact fun hm=>h2.env.same b _ (a1 hm) (hn _ rfl hm)
  |chan a b c d e f=>exact fun hm=>h2.env.same _ _ (a1 hm) (hn _ rfl hm)
  |stringIter a t=>exact fun hm=>h2.env.same b _ (a1 hm) (hn _ rfl hm)
  |mapIter a b c d=>exact fun hm=>h2.env.same _ _ (a1 hm) (hn _ rfl hm)
  |loop a=>exact fun hm=>h2.env.same b _ (a1 hm) (hn _ rfl hm)
  |deferred a=>exact fun hm=>h2.env.same b _ (a1 hm) (hn _ rfl hm)
  |coro a=>exact fun hm=>h2.env.same b _ (a1 hm) (hn _ rfl hm)
  |finalizers a t=>exact fun hm=>h2.env.same b _ (a1 hm) (hn _ rfl hm)
 ·rw[h2.mine,h1.mine];have:=h1.env.size;have:=h2.env.size;constructor
  ·rintro((h|⟨b,e1,e2,e3⟩)|⟨b,e1,e2,e3⟩)
   ·exact .inl h
   ·exact .inr ⟨b,e1,e2,by omega⟩
   ·exact .inr ⟨b,e1,by omega,e3⟩
  ·rintro(h|⟨b,e1,e2,e3⟩)
   ·exact .inl (.inl h)
   ·by_cases hb:b<w1.heap.size
    ·exact .inl (.inr ⟨b,e1,e2,hb⟩)
    ·exact .inr ⟨b,e1,by omega,e3⟩
 ·rw[Array.mem_append] at he;rcases he with he|he
  ·exact(h1.evs e he).grow fun l hl=>(h2.mine l).2 (.inl hl)
  ·exact h2.evs e he
theorem Old.trans{f f1 f2:Inj}{h h1 h2:AHeap}(a:Old f h f1 h1)(b:Old f1 h1 f2 h2):Old f h f2 h2:=
 ⟨Nat.le_trans a.next b.next,fun i e hl=>by
  obtain⟨e1,g1⟩:=a.none i e hl;have hl1:zKa h1.objs i:=by obtain⟨c,x,hh⟩:=hl;exact⟨c,x,by rw[g1];exact hh⟩
  obtain⟨e2,g2⟩:=b.none i e1 hl1;exact⟨e2,g2.trans g1⟩,b.lo.trans a.lo,b.wl.trans a.wl,b.no.trans a.no⟩
section
variable {s s':S}{tmps:Array Value}{todo:List Item}{defers:List Deferred}{round:Option Nat}{cs:List Frame}
theorem rangeA_sound(hp:TabOk p){g:Operand}{params:Array Tmp}{assign body:Code}{k:List AI}{k':List Item}{h1:AHeap}{w1:World}{f1:Inj}{Mi1:Loc→Prop}{es1:Array Event}{ad:Nat}{x:Base}{mark mark':List Deferred}
  (hret:s.fr.ret=false) (hsz:tmps.size=s.fr.nt) (ht:TRel f s.fr.tmps tmps) (hk:IsRel f k k') (hd:DsRel f s.fr.defers defers) (hro:RoRel f s.fr.round round)
  (hcs:FsRel f s.cs cs) (hle:f.le f1) (hdid:Did Mi Sh w w1 es1 Mi1) (hr:HRel f1 (fun l=>Mi1 l∨Sh l) Mi1 h1 w1) (hold:Old f s.h f1 h1) (had:f1 ad=some x) (hmark:DsRel f1 mark mark') (hop:zYb p s g params assign body k h1 ad mark=.next s')
  (hen:(Instr.enterLoop s.fr.fn tmps params assign body round).runT p.prog w #[]=(.ok (w1.heap.size,mark') (zF w1 (.loop {state:=.ready,pending:=none,fn:=s.fr.fn,tmps,params,assign,body,defers:=x.blk})),es1)) :
  Adv p.prog main f Mi Sh bot s.h (G (realF s.fr tmps (.code (.rangeFunc g params assign body)::k') defers round) (cs++bot)) w s':=by
 obtain⟨sfr,scs,sh⟩:=s;simp only[] at *;unfold zYb at hop;simp only[] at hop;have hev:=ht.ev (fr:=realF sfr tmps (.code (.rangeFunc g params assign body)::k') defers round) rfl;split at hop
 ·next fn first captured eg=>
  have hg:=hev g _ eg;split at hop
  ·next fn' args h2 ec=>
   split at hop
   ·next fr ee=>
    cases hop
    have hz:ORel (f1.put h1.next ⟨w1.heap.size,0,0,0⟩) (fun l=>(Mi1 l∨Sh l)∨NewIn w1.heap.size (w1.heap.size+1) l) ⟨w1.heap.size,0,0,0⟩
      (.loop {state:=.ready,pending:=none,fn:=sfr.fn,nt:=sfr.nt,tmps:=sfr.tmps,params,assign,body,defers:=ad})
      (zF w1 (.loop {state:=.ready,pending:=none,fn:=sfr.fn,tmps,params,assign,body,defers:=x.blk})):=by
     have hle1:f1.le (f1.put h1.next ⟨w1.heap.size,0,0,0⟩):=zQb hr _;exact⟨rfl,.inr ⟨w1.heap.size,rfl,Nat.le_refl _,Nat.lt_succ_self _⟩,_,zOa w1 _,rfl,rfl,rfl,hsz,(ht.mono hle).mono hle1,rfl,rfl,rfl,x,hle1 _ _ had,rfl⟩
    obtain⟨q1,q2⟩:=newObj_sound hr rfl hz;have hle1:f1.le (f1.put h1.next ⟨w1.heap.size,0,0,0⟩):=zQb hr _;have hle2:f.le (f1.put h1.next ⟨w1.heap.size,0,0,0⟩):=Inj.le_trans hle hle1
    generalize hgv:(realF sfr tmps (.code (.rangeFunc g params assign body)::k') defers round).eval g=gv at hg;cases hg with
    |func hfn a1 a2=>
     rename_i fa' fc';unfold zac at ec;cases e1:p.funcs.get fn with
     |none=>rw[e1] at ec;cases ec
     |some fd=>
      rw[e1] at ec;simp only[] at ec;cases e2:fd.body with
      |none=>rw[e2] at ec;cases ec
      |some cc=>
       rw[e2] at ec;cases ec;have hpf:=hp.funcs fn fd e1;have hnum:=hp.num fn fd e1;have hyield:VRel (f1.put h1.next ⟨w1.heap.size,0,0,0⟩) (.func (.yield h1.next) #[] #[]) (.func (.yield w1.heap.size) #[] #[]):=.yield (x:=⟨w1.heap.size,0,0,0⟩) (Inj.put_same _ _ _);have hargs:VsRel (f1.put h1.next ⟨w1.heap.size,0,0,0⟩) (first.toList++[.func (.yield h1.next) #[] #[]]++captured.toList) ((fa'++#[Value.func (.yield w1.heap.size) #[] #[]])++fc').toList:=by simpa using((a1.mono hle2).append (.cons hyield .nil)).append (a2.mono hle2)
       have q3:=zib hp (kind:=.normal) hargs ee rfl;have qself:FRel (f1.put h1.next ⟨w1.heap.size,0,0,0⟩) {sfr with todo:=.inRF h1.next::k,defers:=mark++sfr.defers} (realF sfr tmps (.inRangeFunc w1.heap.size::k') (mark'++defers) round):=
        ⟨_,_,_,_,rfl,hsz,ht.mono hle2,.cons (.inRF (x:=⟨w1.heap.size,0,0,0⟩) (Inj.put_same _ _ _)) (hk.mono hle2),(hmark.mono hle1).append (hd.mono hle2),hro.mono hle2⟩
       refine⟨_,_,_,_,_,?_,hle2,(hdid.seen p.prog sfr.fn).trans q1,⟨⟨_,_::cs,rfl,q3,.cons qself (hcs.mono hle2)⟩,q2⟩,hold.trans (.obj hr _ _)⟩;have hsem:(do let d ←resolve (realF sfr tmps (.inRangeFunc w1.heap.size::k') (mark'++defers) round).eval {callee:=.value g,args:=#[.const (.func (.yield w1.heap.size) #[] #[])],argTypes:=#[]} 0;invoke d.target d.args:Sem Next).runT p.prog (zF w1 (.loop {state:=.ready,pending:=none,fn:=sfr.fn,tmps,params,assign,body,defers:=x.blk})) #[]=(.ok (.enter fn (fa'++#[Value.func (.yield w1.heap.size) #[] #[]]++fc')) (zF w1 (.loop {state:=.ready,pending:=none,fn:=sfr.fn,tmps,params,assign,body,defers:=x.blk})),#[]):=by
        have hgv2:(realF sfr tmps (.inRangeFunc w1.heap.size::k') (mark'++defers) round).eval g=.func (.func fn) fa' fc':=by rw[←hgv];cases g<;>rfl
        rw[Sem.runT_eq];have hcv:(realF sfr tmps (.inRangeFunc w1.heap.size::k') (mark'++defers) round).eval (.const (.func (.yield w1.heap.size) #[] #[]))=.func (.yield w1.heap.size) #[] #[]:=rfl;simp[resolve,Deferred.ofValue,hgv2,invoke,callFunc,hpf,hnum,e2,hcv]
       have hap:=zba (p:=p) (fr:=sfr) (k':=k') (tmps:=tmps) (defers:=mark'++defers) (round:=round) (it:=.inRangeFunc w1.heap.size) (cs:=cs++bot) (fun _ _ _ _ h=>by cases h) (by rw[←Sem.runT_fst p.prog _ _ #[],hsem]) (.inr (.inr (.inl ⟨_,_,rfl⟩)));have hstep:stepG p.prog main (G (realF sfr tmps (.code (.rangeFunc g params assign body)::k') defers round) (cs++bot)) w =
         GStep.after (seen p.prog sfr.fn es1) (stepG.apply p.prog true (realF sfr tmps (.inRangeFunc w1.heap.size::k') (mark'++defers) round) (cs++bot) none (do let d ←resolve (realF sfr tmps (.inRangeFunc w1.heap.size::k') (mark'++defers) round).eval {callee:=.value g,args:=#[.const (.func (.yield w1.heap.size) #[] #[])],argTypes:=#[]} 0;invoke d.target d.args) (zF w1 (.loop {state:=.ready,pending:=none,fn:=sfr.fn,tmps,params,assign,body,defers:=x.blk}))):=by
        simp[G,stepG,realF,hret,stepG.exec,hen,-Sem.runT_eq,-Sem.events_bind,-Sem.run_bind]
       rw[hstep,hap];have hnil:(do let d ←resolve (realF sfr tmps (.inRangeFunc w1.heap.size::k') (mark'++defers) round).eval {callee:=.value g,args:=#[.const (.func (.yield w1.heap.size) #[] #[])],argTypes:=#[]} 0;invoke d.target d.args:Sem Next).events p.prog (zF w1 (.loop {state:=.ready,pending:=none,fn:=sfr.fn,tmps,params,assign,body,defers:=x.blk})) #[]=#[]:=by unfold Sem.events;rw[hsem]
       rw[hnil];have hs0:seen p.prog sfr.fn #[]=#[]:=by simp[seen]
       rw[hs0];simp only[outcome,GStep.after,Array.append_empty];rfl
   ·cases hop
  ·cases hop
 ·cases hop
end
end
section
open Go.Conc (G)
variable {p:Tab}{f:Inj}{Mi Sh:Loc→Prop}{bot:List Frame}{main:Bool}{h h':AHeap}{w:World}
section
variable {s s':S}{tmps:Array Value}{todo:List Item}{defers:List Deferred}{round:Option Nat}{cs:List Frame}
theorem range_none_sound(hp:TabOk p){g:Operand}{params:Array Tmp}{assign body:Code}{k:List AI}{k':List Item}
  (hret:s.fr.ret=false) (hsz:tmps.size=s.fr.nt) (ht:TRel f s.fr.tmps tmps) (hk:IsRel f k k') (hd:DsRel f s.fr.defers defers) (hro:RoRel f s.fr.round round)
  (hcs:FsRel f s.cs cs) (hr:HRel f (fun l=>Mi l∨Sh l) Mi s.h w) (hround:s.fr.round=none) (hop:zYb p s g params assign body k (s.h.alloc (.deferred (some []))) s.h.next [⟨.collected s.h.next,#[]⟩]=.next s') :
  Adv p.prog main f Mi Sh bot s.h (G (realF s.fr tmps (.code (.rangeFunc g params assign body)::k') defers round) (cs++bot)) w s':=by
 have hr0:round=none:=by rw[hround] at hro;cases hro;rfl
 obtain⟨q1,q2⟩:=newObj_sound (O:=.deferred (some [])) hr (o:=.deferred (some [])) rfl ⟨rfl,.inr ⟨w.heap.size,rfl,Nat.le_refl _,Nat.lt_succ_self _⟩,[],zOa w _,.nil⟩;refine rangeA_sound hp (x:=⟨w.heap.size,0,0,0⟩) (mark':=[⟨.collected w.heap.size,#[]⟩]) hret hsz ht hk hd hro hcs (zQb hr _) q1 q2 (.obj hr _ _) (Inj.put_same _ _ _) (.cons (.collected (x:=⟨w.heap.size,0,0,0⟩) (Inj.put_same _ _ _)) .nil) hop ?_;subst hr0;rw[Sem.runT_eq];rfl
theorem range_some_sound(hp:TabOk p){g:Operand}{params:Array Tmp}{assign body:Code}{k:List AI}{k':List Item}{l:Nat}{al:ALoop}
  (hret:s.fr.ret=false) (hsz:tmps.size=s.fr.nt) (ht:TRel f s.fr.tmps tmps) (hk:IsRel f k k') (hd:DsRel f s.fr.defers defers) (hro:RoRel f s.fr.round round)
  (hcs:FsRel f s.cs cs) (hr:HRel f (fun l=>Mi l∨Sh l) Mi s.h w) (hround:s.fr.round=some l) (hal:s.h.objs.get l=some (.loop al)) (hop:zYb p s g params assign body k s.h al.defers []=.next s') :
  Adv p.prog main f Mi Sh bot s.h (G (realF s.fr tmps (.code (.rangeFunc g params assign body)::k') defers round) (cs++bot)) w s':=by
 rw[hround] at hro;cases hro with
 |some hl=>
  rename_i y;obtain⟨o,o1,o2⟩:=hr.obj l y hl;rw[hal] at o1;cases o1;obtain⟨hx0,hK,l',k1,k2⟩:=o2;obtain⟨x,hx1,hx2⟩:=k2.defers;obtain⟨g1,g2⟩:=getObj_any p.prog k1 (fun _ _ _ h=>by cases h) rfl;refine rangeA_sound hp (x:=x) (mark':=[]) (es1:=#[⟨.obj y.blk,false,false⟩]) (w1:=w) (Mi1:=Mi) hret hsz ht hk hd (by rw[hround];exact .some hl) hcs f.le_refl (.still fun e he=>?_) hr (.refl _ _) hx1 .nil hop ?_
  ·simp at he;subst he;exact .inr ⟨rfl,hK.elim .inl fun h=>.inr ⟨rfl,h⟩⟩
  ·rw[Sem.runT_eq];have a1:(Instr.getLoop y.blk).run p.prog w=.ok l' w:=by simp[Instr.getLoop,g1]
   have a2:∀ ev,(Instr.getLoop y.blk).events p.prog w ev=ev.push ⟨.obj y.blk,false,false⟩:=fun ev=>by simp[Instr.getLoop,g1,g2]
   simp only[Instr.enterLoop,Sem.run_bind,Sem.events_bind,a1,a2,Result.andThen_ok,Result.evThen_ok,Sem.run_pure,Sem.events_pure,hx2];rfl
theorem begin_sound(hp:TabOk p){k:List AI}{k':List Item}{l:Nat}{al:ALoop}(hret:s.fr.ret=false)(hsz:tmps.size=s.fr.nt)(ht:TRel f s.fr.tmps tmps)(hk:IsRel f k k')(hd:DsRel f s.fr.defers defers)(hro:RoRel f s.fr.round round)
  (hcs:FsRel f s.cs cs) (hr:HRel f (fun l=>Mi l∨Sh l) Mi s.h w) (hround:s.fr.round=some l) (hal:s.h.objs.get l=some (.loop al)) (hlo:s.h.owns l=true) (hst:al.state=.ready)
  (hs':s'={s with fr:={s.fr with todo:=k},h:=s.h.put l (.loop {al with state:=.busy})}) :
  Adv p.prog main f Mi Sh bot s.h (G (realF s.fr tmps (.beginRound::k') defers round) (cs++bot)) w s':=by
 subst hs';rw[hround] at hro;cases hro with
 |some hl=>
  rename_i x;obtain⟨l',k1,k2,k3⟩:=setLoop_sound (al':={al with state:=.busy}) hr hl hal hlo;obtain⟨w',q1,q2,q3,q4⟩:=k3 {l' with state:=.busy} ⟨rfl,k1.pending,k1.fn,k1.size,k1.tmps,k1.params,k1.assign,k1.body,k1.defers⟩;have hls:l'.state=.ready:=by rw[k1.state,hst]
  have a1:=(k2 p.prog).1;have a2:=(k2 p.prog).2;have b1:=(q1 p.prog).1;have b2:=(q1 p.prog).2;have hsem:(do Instr.beginRound x.blk;pure .skip:Sem Next).run p.prog w=.ok .skip w':=by simp[Instr.beginRound,a1,b1,hls]
  have hev:(do Instr.beginRound x.blk;pure .skip:Sem Next).events p.prog w #[]=#[⟨.obj x.blk,false,false⟩,⟨.obj x.blk,true,false⟩]:=by simp[Instr.beginRound,a1,a2,b1,b2,hls]
  have hap:=zba (p:=p) (fr:=s.fr) (k':=k') (tmps:=tmps) (defers:=defers) (round:=some x.blk) (it:=.beginRound) (cs:=cs++bot) (fun _ _ _ _ h=>by cases h) hsem (.inr (.inl rfl));have hstep:stepG p.prog main (G (realF s.fr tmps (.beginRound::k') defers (some x.blk)) (cs++bot)) w =
    stepG.apply p.prog true (realF s.fr tmps (.beginRound::k') defers (some x.blk)) (cs++bot) none (do Instr.beginRound x.blk;pure .skip) w:=by
   simp[G,stepG,realF,hret,stepG.exec,-Sem.runT_eq,-Sem.events_bind,-Sem.run_bind]
  refine⟨_,w',_,Mi,f,?_,f.le_refl,q2.seen p.prog s.fr.fn,⟨⟨_,_,rfl,⟨_,_,_,_,rfl,hsz,ht,hk,hd,by show RoRel f s.fr.round (some x.blk);rw[hround];exact .some hl⟩,hcs⟩,q3⟩,q4⟩;rw[hstep,hap,hev];simp only[outcome,GStep.after,Array.append_empty,Frame.finish,realF]
theorem endRF_sound(hp:TabOk p){k:List AI}{k':List Item}{l:Nat}{al:ALoop}{x:Base}(hret:s.fr.ret=false)(hsz:tmps.size=s.fr.nt)(ht:TRel f s.fr.tmps tmps)(hk:IsRel f k k')(hd:DsRel f s.fr.defers defers)(hro:RoRel f s.fr.round round)
  (hcs:FsRel f s.cs cs) (hr:HRel f (fun l=>Mi l∨Sh l) Mi s.h w) (hl:f l=some x) (hal:s.h.objs.get l=some (.loop al)) (hlo:s.h.owns l=true) (hst:al.state≠.busy)
  (hs':s'={s with fr:={s.fr with todo:=(match al.pending with|some c=>.code c::k|none=>k)},h:=s.h.put l (.loop {al with state:=.exhausted})}) :
  Adv p.prog main f Mi Sh bot s.h (G (realF s.fr tmps (.endRangeFunc x.blk::k') defers round) (cs++bot)) w s':=by
 subst hs';obtain⟨l',k1,k2,k3⟩:=setLoop_sound (al':={al with state:=.exhausted}) hr hl hal hlo;obtain⟨w',q1,q2,q3,q4⟩:=k3 {l' with state:=.exhausted} ⟨rfl,k1.pending,k1.fn,k1.size,k1.tmps,k1.params,k1.assign,k1.body,k1.defers⟩;have hls:(l'.state==LoopState.busy)=false:=by rw[k1.state];cases e:al.state<;>first|rfl|exact absurd e hst
 have a1:=(k2 p.prog).1;have a2:=(k2 p.prog).2;have b1:=(q1 p.prog).1;have b2:=(q1 p.prog).2;have hsem:(Instr.endLoop x.blk).runT p.prog w #[]=(.ok al.pending w',#[⟨.obj x.blk,false,false⟩,⟨.obj x.blk,true,false⟩]):=by rw[Sem.runT_eq];simp only[Instr.endLoop,Sem.run_bind,Sem.events_bind,a1,a2,Result.andThen_ok,Result.evThen_ok,hls,Bool.false_eq_true,if_false,b1,b2,Sem.run_pure,Sem.events_pure];rw[k1.pending];rfl
 have hkk:IsRel f (match al.pending with|some c=>.code c::k|none=>k) ((al.pending.map Item.code).toList++k'):=by
  cases al.pending with
  |none=>exact hk
  |some c=>exact .cons (.code c) hk
 refine⟨_,w',_,Mi,f,?_,f.le_refl,q2.seen p.prog s.fr.fn,⟨⟨_,_,rfl,⟨_,_,_,_,rfl,hsz,ht,hkk,hd,hro⟩,hcs⟩,q3⟩,q4⟩;simp[G,stepG,realF,hret,stepG.exec,hsem,GStep.after,-Sem.runT_eq]
end
theorem step_sound(hp:TabOk p){s s':S}{g:Goroutine}(hs:step p s=.next s')(hrel:SRel f Mi Sh bot s g w):Adv p.prog main f Mi Sh bot s.h g w s':=by
 obtain⟨tmps,todo,defers,round,cs,rfl,hsz,ht,hk,hd,hro,hcs,hr⟩:=hrel.out;unfold step at hs;simp only[] at hs;cases hret:s.fr.ret with
 |true=>rw[hret] at hs;exact retA_sound hp hret hsz ht hk hd hro hcs hr hs
 |false=>
  rw[hret] at hs;simp only[] at hs;generalize etodo:s.fr.todo=td at hs hk;cases hk with
  |nil=>
   simp only[] at hs;refine leave_sound hret hsz ht (by rw[etodo];exact .nil) hd hro hcs hr hs (fun e _=>?_) (fun l e y w1 es er=>?_)
   ·subst e;simp[G,realF,hret,stepG,stepG.exec]
   ·subst e;simp[G,realF,hret,stepG,stepG.exec,er,-Sem.runT_eq];try rfl
  |cons hi hkk=>
   rename_i ai it k k';have hself:IsRel f s.fr.todo (it::k'):=by rw[etodo];exact .cons hi hkk
   have to:∀{kk:List AI} {kk':List Item},IsRel f kk kk'→s'={s with fr:={s.fr with todo:=kk,ret:=false}}→stepG p.prog main (G (realF s.fr tmps (it::k') defers round) (cs++bot)) w=.go (G (realF {s.fr with todo:=kk} tmps kk' defers round) (cs++bot)) w #[] →
     Adv p.prog main f Mi Sh bot s.h (G (realF s.fr tmps (it::k') defers round) (cs++bot)) w s':=by
    intro kk kk' hkk' e hst;rw[←hret] at e;subst e;exact adv_to (cs':=s.cs) hret hsz ht hd hro hcs hr hkk' hst
   cases hi with
   |code c=>
    simp only[] at hs;cases c with
    |ret=>
     simp only[] at hs;refine leave_sound hret hsz ht hself hd hro hcs hr hs (fun e _=>?_) (fun l e y w1 es er=>?_)
     ·subst e;simp[G,realF,hret,stepG,stepG.exec]
     ·subst e;simp[G,realF,hret,stepG,stepG.exec,er,-Sem.runT_eq];try rfl
    |skip=>cases hs;exact to hkk rfl (by simp[G,realF,hret,stepG,stepG.exec])
    |label l=>cases hs;exact to hkk rfl (by simp[G,realF,hret,stepG,stepG.exec])
    |seq a b=>cases hs;exact to (.cons (.code a) (.cons (.code b) hkk)) rfl (by simp[G,realF,hret,stepG,stepG.exec])
    |cond c thn els=>
     simp only[] at hs;have hev:=ht.ev (fr:=realF s.fr tmps (.code (.cond c thn els)::k') defers round) rfl;split at hs
     ·next e1=>cases hs;have:=hev c _ e1;generalize hgv:(realF s.fr tmps (.code (.cond c thn els)::k') defers round).eval c=gv at this;cases this;refine to (.cons (.code thn) hkk) rfl ?_;simp only[realF] at hgv;simp[G,realF,hret,stepG,stepG.exec];simp only[hret,Bool.false_eq_true,if_false] at hgv;rw[hgv];rfl
     ·next e1=>cases hs;have:=hev c _ e1;generalize hgv:(realF s.fr tmps (.code (.cond c thn els)::k') defers round).eval c=gv at this;cases this;refine to (.cons (.code els) hkk) rfl ?_;simp only[realF] at hgv;simp[G,realF,hret,stepG,stepG.exec];simp only[hret,Bool.false_eq_true,if_false] at hgv;rw[hgv];rfl
     ·cases hs
    |block id body=>cases hs;exact to (.cons (.code body) (.cons (.inBlock id) hkk)) rfl (by simp[G,realF,hret,stepG,stepG.exec])
    |loop body=>cases hs;exact to (.cons (.code body) (.cons (.inLoop body) hkk)) rfl (by simp[G,realF,hret,stepG,stepG.exec])
    |scope body=>cases hs;exact to (.cons (.code body) (.cons (.inScope body) hkk)) rfl (by simp[G,realF,hret,stepG,stepG.exec])
    |exit id=>
     simp only[] at hs;obtain⟨x1,x2⟩:=exitTo_rel (id:=id) hkk;split at hs
     ·next kk e1=>cases hs;obtain⟨kk',g1,g2⟩:=x1 kk e1;exact to g2 rfl (by simp[G,realF,hret,stepG,stepG.exec,g1])
     ·next e1=>
      have g1:=x2 e1;refine leave_sound hret hsz ht hself hd hro hcs hr hs (fun e hj=>?_) (fun l e y w1 es er=>?_)
      ·rcases hj with h|h<;>cases h
      ·subst e;simp[G,realF,hret,stepG,stepG.exec,g1,er,-Sem.runT_eq];try rfl
    |goto l=>
     simp only[] at hs;obtain⟨x1,x2⟩:=gotoIn_rel (l:=l) hkk;split at hs
     ·next kk e1=>cases hs;obtain⟨kk',g1,g2⟩:=x1 kk e1;exact to g2 rfl (by simp[G,realF,hret,stepG,stepG.exec,g1])
     ·next e1=>
      have g1:=x2 e1;refine leave_sound hret hsz ht hself hd hro hcs hr hs (fun e hj=>?_) (fun l e y w1 es er=>?_)
      ·rcases hj with h|h<;>cases h
      ·subst e;simp[G,realF,hret,stepG,stepG.exec,g1,er,-Sem.runT_eq];try rfl
    |region id ops draw=>
     simp only[] at hs;cases draw with
     |true=>cases hs
     |false=>cases hs;refine to (.cons (.reg (i:=0) (by simp)) hkk) rfl ?_;simp[G,realF,hret,stepG,stepG.exec,List.range_eq_range']
    |rangeFunc g params assign body=>
     simp only[] at hs;split at hs
     ·next l e1=>
      split at hs
      ·next al e2=>exact range_some_sound hp hret hsz ht hkk hd hro hcs hr e1 e2 hs
      ·cases hs
     ·next e1=>exact range_none_sound hp hret hsz ht hkk hd hro hcs hr e1 hs
    |refuse why=>cases hs
   |inBlock id=>cases hs;exact to hkk rfl (by simp[G,realF,hret,stepG,stepG.exec])
   |inLoop body=>cases hs;exact to (.cons (.code body) (.cons (.inLoop body) hkk)) rfl (by simp[G,realF,hret,stepG,stepG.exec])
   |inScope body=>cases hs;exact to hkk rfl (by simp[G,realF,hret,stepG,stepG.exec])
   |reg hdrop=>
    rename_i ops i rest;simp only[] at hs;cases rest with
    |nil=>cases hs;exact to hkk rfl (by simp[G,realF,hret,stepG,stepG.exec])
    |cons o rest=>
     simp only[] at hs;have hwr:=wanted_rel (ops:=ops) ht o;obtain⟨ho,hrest⟩:=zna hdrop;cases hw:zX ops s.fr o with
     |true=>rw[hw] at hs hwr;exact opA_sound hp hret hdrop hwr hsz ht hkk hd hro hcs hr etodo hs
     |false=>
      rw[hw] at hs hwr;simp only[] at hs;split at hs
      ·next fr e1=>cases hs;obtain⟨q1,q2⟩:=zCa (f:=f) e1 (v':=undef) (.tuple .nil) hsz ht (k':=.inRegion ops (List.range' (i+1) rest.length)::k') (.cons (.reg hrest) hkk) hd hro;refine adv_still (es:=#[]) ?_ rfl ⟨⟨_,_,rfl,q1,hcs⟩,hr⟩ rfl;have hfin:=finish_at (fr:=s.fr) (k':=k') (tmps:=tmps) (defers:=defers) (round:=round) (rest:=rest) ho undef;rw[←hfin];simp only[List.length_cons,List.range'_succ];simp[G,realF,hret,stepG,stepG.exec,ho,hwr]
      ·cases hs
   |inRF hl=>cases hs
   |endRF hl=>
    rename_i l x;simp only[] at hs;split at hs
    ·next al e1 e2=>
     split at hs
     ·cases hs
     ·next hne=>cases hs;exact endRF_sound hp hret hsz ht hkk hd hro hcs hr hl e1 e2 (fun e=>hne e) (by simp only[hret];rfl)
    ·cases hs
   |beginRound=>
    simp only[] at hs;split at hs
    ·next l e1=>
     split at hs
     ·next al e2 e3=>
      split at hs
      ·next e4=>cases hs;exact begin_sound hp hret hsz ht hkk hd hro hcs hr e1 e2 e3 e4 (by simp only[hret])
      ·cases hs
     ·cases hs
    ·cases hs
end
section
open Go.Conc (G)
def Rely(L:World→Prop)(K:Loc→Prop)(w w1:World):Prop:=Env K w w1∧(L w→L w1)
theorem Rely.refl(L:World→Prop)(K:Loc→Prop)(w:World):Rely L K w w:=⟨.refl K w,id⟩
theorem Rely.trans{L:World→Prop}{K:Loc→Prop}{w w1 w2:World}(h:Rely L K w w1)(h':Rely L K w1 w2):Rely L K w w2:=⟨h.1.trans h'.1,h'.2 ∘ h.2⟩
theorem Rely.mono{L:World→Prop}{K K':Loc→Prop}{w w1:World}(hK:∀ l,K' l→K l)(h:Rely L K w w1):Rely L K' w w1:=⟨h.1.mono hK,h.2⟩
inductive GoesX(P:Program)(main:Bool)(Sh:Loc→Prop)(L:World→Prop)(Q:(Loc→Prop)→Goroutine→World→Prop):Nat→(Loc→Prop)→Goroutine→World→Prop where
 |here {n:Nat} {Mi:Loc→Prop} {g:Goroutine} {w:World} (h:∀ w1,Rely L (fun l=>Mi l∨Sh l) w w1→Q Mi g w1):GoesX P main Sh L Q n Mi g w
 |go {n:Nat} {Mi:Loc→Prop} {g:Goroutine} {w:World} (g':World→Goroutine) (w':World→World) (es:World→Array Event) (Mi':World→Loc→Prop) (hr:g.status=.running)
   (h:∀ w1,Rely L (fun l=>Mi l∨Sh l) w w1→stepG P main g w1=.go (g' w1) (w' w1) (es w1)∧Did Mi Sh w1 (w' w1) (es w1) (Mi' w1))
   (k:∀ w1,Rely L (fun l=>Mi l∨Sh l) w w1→GoesX P main Sh L Q n (Mi' w1) (g' w1) (w' w1)):GoesX P main Sh L Q (n+1) Mi g w
variable {P:Program}{main:Bool}{Sh:Loc→Prop}{L:World→Prop}{Q Q':(Loc→Prop)→Goroutine→World→Prop}{Mi:Loc→Prop}{g:Goroutine}{w:World}{n m:Nat}
theorem GoesX.step(hr:g.status=.running)(h:∀ w1,Rely L (fun l=>Mi l∨Sh l) w w1→∃ g' w' es Mi',stepG P main g w1=.go g' w' es∧Did Mi Sh w1 w' es Mi'∧GoesX P main Sh L Q n Mi' g' w'):GoesX P main Sh L Q (n+1) Mi g w:=by
 classical
 have h':∀ w1,∃(x:Goroutine×World×Array Event×(Loc→Prop)),Rely L (fun l=>Mi l∨Sh l) w w1→stepG P main g w1=.go x.1 x.2.1 x.2.2.1∧Did Mi Sh w1 x.2.1 x.2.2.1 x.2.2.2∧GoesX P main Sh L Q n x.2.2.2 x.1 x.2.1:=by
  intro w1;by_cases he:Rely L (fun l=>Mi l∨Sh l) w w1
  ·obtain⟨g',w',es,Mi',a,b,c⟩:=h w1 he;exact⟨⟨g',w',es,Mi'⟩,fun _=>⟨a,b,c⟩⟩
  ·exact⟨⟨g,w,#[],Mi⟩,fun e=>absurd e he⟩
 obtain⟨x,hx⟩:=Classical.axiomOfChoice h';exact .go (fun w1=>(x w1).1) (fun w1=>(x w1).2.1) (fun w1=>(x w1).2.2.1) (fun w1=>(x w1).2.2.2) hr (fun w1 he=>⟨(hx w1 he).1,(hx w1 he).2.1⟩) (fun w1 he=>(hx w1 he).2.2)
theorem GoesX.cases(h:GoesX P main Sh L Q n Mi g w):(∀ w1,Rely L (fun l=>Mi l∨Sh l) w w1→Q Mi g w1)∨∃ n',n=n'+1∧g.status=.running ∧
  ∀ w1,Rely L (fun l=>Mi l∨Sh l) w w1→∃ g' w' es Mi',stepG P main g w1=.go g' w' es∧Did Mi Sh w1 w' es Mi'∧GoesX P main Sh L Q n' Mi' g' w':=by
 cases h with
 |here h=>exact .inl h
 |go g' w' es Mi' hr h k=>exact .inr ⟨_,rfl,hr,fun w1 he=>⟨_,_,_,_,(h w1 he).1,(h w1 he).2,k w1 he⟩⟩
theorem GoesX.rely{w1:World}(h:GoesX P main Sh L Q n Mi g w)(he:Rely L (fun l=>Mi l∨Sh l) w w1):GoesX P main Sh L Q n Mi g w1:=by
 cases h with
 |here h=>exact .here fun w2 h2=>h w2 (he.trans h2)
 |go g' w' es Mi' hr h k=>exact .go g' w' es Mi' hr (fun w2 h2=>h w2 (he.trans h2)) (fun w2 h2=>k w2 (he.trans h2))
theorem GoesX.more(h:GoesX P main Sh L Q n Mi g w):∀{m:Nat},n≤m→GoesX P main Sh L Q m Mi g w:=by
 induction h with
 |here h=>exact fun _=>.here h
 |go g' w' es Mi' hr h k ih=>
  intro m hm
  match m,hm with
  |m+1,hm=>exact .go g' w' es Mi' hr h (fun w1 he=>ih w1 he (Nat.le_of_succ_le_succ hm))
theorem GoesX.bind(hQ:∀ Mi g w,(∀ w1,Rely L (fun l=>Mi l∨Sh l) w w1→Q Mi g w1)→GoesX P main Sh L Q' m Mi g w)(h:GoesX P main Sh L Q n Mi g w):GoesX P main Sh L Q' (n+m) Mi g w:=by
 induction h with
 |here h=>exact(hQ _ _ _ h).more (by omega)
 |go g' w' es Mi' hr h k ih=>refine GoesX.more (.go g' w' es Mi' hr h ih) (by omega)
theorem GoesX.mono(hQ:∀ Mi g w,Q Mi g w→Q' Mi g w)(h:GoesX P main Sh L Q n Mi g w):GoesX P main Sh L Q' n Mi g w:=
 GoesX.bind (m:=0) (fun Mi g w h=>.here fun w1 h1=>hQ _ _ _ (h w1 h1)) h
theorem GoesX.running(hQ:∀ Mi g w,Q Mi g w→g.status=.running)(h:GoesX P main Sh L Q n Mi g w):g.status=.running:=by
 cases h with
 |here h=>exact hQ _ _ _ (h w (.refl _ _ _))
 |go g' w' es Mi' hr h k=>exact hr
theorem SRel.running{f:Inj}{Mi Sh:Loc→Prop}{bot:List Frame}{s:S}{g:Goroutine}{w:World}(h:SRel f Mi Sh bot s g w):g.status=.running:=by obtain⟨fr,cs,rfl,_⟩:=h.fr;rfl
end
section
open Go.Conc Go.ConcN
structure Sep(Sy:Loc→Prop)(M S:Nat→Loc→Prop)(j:Nat):Prop where
 mm:∀ g g' l,g≤j→g'≤j→g≠g'→M g l→¬ M g' l
 ms:∀ g g' l,g≤j→g'≤j→g≠g'→M g l→¬ S g' l
 my:∀ g l,g≤j→M g l→¬ Sy l
 sy:∀ g l,g≤j→S g l→¬ Sy l
def OpOk(Sy M S:Loc→Prop)(g:Nat)(op:MemOp):Prop:=
 op.g=g∧∀ x,op.act.touch? = some x→(Sy x.loc∧x.kind≠.plain∧(x.kind=.said→g=0))∨(M x.loc∧x.kind=.plain)∨(S x.loc∧x.write=false∧x.kind=.plain)
structure TI(Sy:Loc→Prop)(T0 B:Nat)(M S:Nat→Loc→Prop)(t:Trace)(j:Nat):Prop where
 quiet:∀ i op x,t[i]? = some op→T0≤i→op.act.touch? = some x→Sy x.loc→x.kind≠.plain∧(x.kind=.said→op.g=0)
 pre:∀ g,g≤j→∀ i a,i<T0→touchAt t i=some a→Knows t g i
 own:∀ g,g≤j→∀ l,M g l→Perm t g l
 rd:∀ g,g≤j→∀ l,S g l→PermW t g l
 nr:∀ said,¬ Race said t
 gs:∀(i:Nat) (op:MemOp),t[i]? = some op→op.g≤j
 atm:∀ i op x,t[i]? = some op→T0≤i→op.act.touch? = some x→x.kind=.atomic→Sy x.loc
 low:∀ i op x b,t[i]? = some op→T0≤i→op.act.touch? = some x→locBlk x.loc=some b→b<B
section
variable {Sy:Loc→Prop}{T0 B:Nat}{M S M' S':Nat→Loc→Prop}{t u:Trace}{j g:Nat}
theorem TI.grow(h:TI Sy T0 B M S t j){B':Nat}(hB:B≤B')(hM:∀ g,g≤j→∀ l,M' g l→M g l∨∃ b,locBlk l=some b∧B≤b)(hS:∀ g,g≤j→∀ l,S' g l→S g l∨M g l):TI Sy T0 B' M' S' t j:=by
 refine⟨h.quiet,h.pre,fun g hg l hl=>?_,fun g hg l hl=>?_,h.nr,h.gs,h.atm,fun i op x b a c d e=>Nat.lt_of_lt_of_le (h.low i op x b a c d e) hB⟩
 ·rcases hM g hg l hl with hm|⟨b,hb,hlt⟩
  ·exact h.own g hg l hm
  ·intro i a ha e;obtain⟨op,ho,hx⟩:=touch_of ha;rcases Nat.lt_or_ge i T0 with h0|h0
   ·exact h.pre g hg i a h0 ha
   ·have:=h.low i op a b ho h0 hx (by rw[e];exact hb);omega
 ·rcases hS g hg l hl with hs|hm
  ·exact h.rd g hg l hs
  ·exact .of (h.own g hg l hm)
theorem TI.app(A:Sep Sy M S j)(h:TI Sy T0 B M S t j)(hT:T0≤t.size)(hg:g≤j)(hu:∀ op∈u,OpOk Sy (M g) (S g) g op)(hlow:∀ op∈u,∀ x b,op.act.touch? = some x→locBlk x.loc=some b→b<B):TI Sy T0 B M S (t++u) j:=by
 have hop:∀{i:Nat} {op:MemOp},(t++u)[i]? = some op→(i<t.size∧t[i]? = some op)∨(t.size≤i∧op∈u):=getElem?_append_cases;refine⟨fun i op x hi h0 hx hs=>?_,fun g' hg' i a hi ha=>?_,fun g' hg' l hl=>(h.own g' hg' l hl).app fun op ho b hb e=>?_,fun g' hg' l hl=>(h.rd g' hg' l hl).app fun op ho b hb e hw=>?_,fun said=>?_,fun i op hi=>?_,fun i op x hi h0 hx hat=>?_,fun i op x b hi h0 hx hb=>?_⟩
 ·rcases hop hi with⟨_,hi'⟩|⟨_,hiu⟩
  ·exact h.quiet i op x hi' h0 hx hs
  ·obtain⟨e,hk⟩:=hu op hiu;rcases hk x hx with⟨_,h1,h2⟩|⟨hm,_⟩|⟨hr,_⟩
   ·exact⟨h1,fun hsd=>e.trans (h2 hsd)⟩
   ·exact absurd hs (A.my g _ hg hm)
   ·exact absurd hs (A.sy g _ hg hr)
 ·have hlt:i<t.size:=Nat.lt_of_lt_of_le hi hT;exact(h.pre g' hg' i a hi (by rw[touchAt_old hlt] at ha;exact ha)).app u
 ·obtain⟨eg,hk⟩:=hu op ho;by_cases egg:g=g'
  ·exact eg.trans egg
  ·rcases hk b hb with⟨hs,_⟩|⟨hm,_⟩|⟨hr,_⟩
   ·exact absurd (e▸hs) (A.my g' l hg' hl)
   ·exact absurd hl (A.mm g g' l hg hg' egg (e▸hm))
   ·exact absurd (e▸hr) (A.ms g' g l hg' hg (Ne.symm egg) hl)
 ·obtain⟨eg,hk⟩:=hu op ho;by_cases egg:g=g'
  ·exact eg.trans egg
  ·rcases hk b hb with⟨hs,_⟩|⟨hm,_⟩|⟨_,hr,_⟩
   ·exact absurd (e▸hs) (A.sy g' l hg' hl)
   ·exact absurd hl (A.ms g g' l hg hg' egg (e▸hm))
   ·rw[hr] at hw;cases hw
 ·refine noRace_append (h.nr said) (fun op ho=>(hu op ho).1) (fun i a ha op ho b hb hc=>?_);obtain⟨x,hx,hxa⟩:=touch_of ha;rcases Nat.lt_or_ge i T0 with h0|h0
  ·exact h.pre g hg i a h0 ha
  rcases(hu op ho).2 b hb with⟨hs,hk,hn⟩|⟨hm,_⟩|⟨hr,hbw,_⟩
  ·obtain⟨k1,k2⟩:=h.quiet i x a hx h0 hxa (by rw[hc.1];exact hs);obtain⟨_,_,_,hcase⟩:=hc;rcases hcase with e|e|⟨_,e1,e2⟩
   ·exact absurd e k1
   ·exact absurd e hk
   ·have:=knows_own hx;rwa [k2 e1,←hn e2] at this
  ·exact h.own g hg b.loc hm i a ha hc.1
  ·exact h.rd g hg b.loc hr i a ha hc.1 (hc.2.2.1.resolve_right (by simp[hbw]))
 ·rcases hop hi with⟨_,hi'⟩|⟨_,hiu⟩
  ·exact h.gs i op hi'
  ·rw[(hu op hiu).1];exact hg
 ·rcases hop hi with⟨_,hi'⟩|⟨_,hiu⟩
  ·exact h.atm i op x hi' h0 hx hat
  ·rcases(hu op hiu).2 x hx with⟨hs,_⟩|⟨_,e⟩|⟨_,_,e⟩
   ·exact hs
   ·rw[e] at hat;cases hat
   ·rw[e] at hat;cases hat
 ·rcases hop hi with⟨_,hi'⟩|⟨_,hiu⟩
  ·exact h.low i op x b hi' h0 hx hb
  ·exact hlow op hiu x b hx hb
theorem TI.fork(h:TI Sy T0 B M S t j)(hT:T0≤t.size){x y:MemOp}(hx:x.g=0∧x.act=.go (j+1))(hy:y.g=j+1∧y.act=.start)(h0:Deaf t 0=0)
  (hM:∀ g,g≤j→∀ l,M' g l→M g l) (hS:∀ g,g≤j→∀ l,S' g l→S g l∨M g l) (hMc:∀ l,M' (j+1) l→M 0 l) (hSc:∀ l,S' (j+1) l→S 0 l∨M 0 l):TI Sy T0 B M' S' (t++#[x,y]) (j+1):=by
 have hk:Deaf t (j+1)=0:=Deaf_absent fun i op hi e=>by have:=h.gs i op hi;omega
 have hnt:∀ op∈#[x,y],∀ b,op.act.touch? = some b→False:=by
  intro op hop b hb;simp only[List.mem_toArray,List.mem_cons,List.not_mem_nil,or_false] at hop;rcases hop with rfl|rfl
  ·rw[hx.2] at hb;cases hb
  ·rw[hy.2] at hb;cases hb
 have old:∀{i:Nat} {a:Touch},touchAt (t++#[x,y]) i=some a→touchAt t i=some a:=by
  intro i a ha;obtain⟨z,hz,hza⟩:=touch_of ha;rcases getElem?_append_cases hz with⟨_,hz'⟩|⟨_,hzu⟩
  ·rw[touchAt_of hz'];exact hza
  ·exact(hnt z hzu a hza).elim
 have oldOp:∀{i:Nat} {op:MemOp} {a:Touch},(t++#[x,y])[i]? = some op→op.act.touch? = some a→t[i]? = some op:=by
  intro i op a hi ha;rcases getElem?_append_cases hi with⟨_,hz'⟩|⟨_,hzu⟩
  ·exact hz'
  ·exact(hnt op hzu a ha).elim
 have child:∀{i:Nat},Knows t 0 i→Knows (t++#[x,y]) (j+1) i:=fun h'=>fork_knows hx hy h0 hk h'
 refine⟨fun i op a hi h0' ha hs=>h.quiet i op a (oldOp hi ha) h0' ha hs,fun g hg i a hi ha=>?_,fun g hg l hl=>?_,fun g hg l hl=>?_,fun said=>?_,fun i op hi=>?_,fun i op a hi h0' ha hat=>h.atm i op a (oldOp hi ha) h0' ha hat,fun i op a b hi h0' ha hb=>h.low i op a b (oldOp hi ha) h0' ha hb⟩
 ·rcases Nat.lt_or_ge j g with hlt|hge
  ·obtain rfl:g=j+1:=by omega
   exact child (h.pre 0 (Nat.zero_le _) i a hi (old ha))
  ·exact(h.pre g hge i a hi (old ha)).app _
 ·rcases Nat.lt_or_ge j g with hlt|hge
  ·obtain rfl:g=j+1:=by omega
   exact fun i a ha e=>child (h.own 0 (Nat.zero_le _) l (hMc l hl) i a (old ha) e)
  ·exact(h.own g hge l (hM g hge l hl)).app fun op hop b hb _=>(hnt op hop b hb).elim
 ·rcases Nat.lt_or_ge j g with hlt|hge
  ·obtain rfl:g=j+1:=by omega
   refine fun i a ha e hw=>child ?_
   rcases hSc l hl with hs|hm
   ·exact h.rd 0 (Nat.zero_le _) l hs i a (old ha) e hw
   ·exact h.own 0 (Nat.zero_le _) l hm i a (old ha) e
  ·refine PermW.app (t:=t) ?_ fun op hop b hb _ _=>(hnt op hop b hb).elim
   rcases hS g hge l hl with hs|hm
   ·exact h.rd g hge l hs
   ·exact .of (h.own g hge l hm)
 ·have e:t++#[x,y]=(t++#[x])++#[y]:=by apply Array.ext';simp
  rw[e];refine noRace_append (g:=j+1) (noRace_append (g:=0) (h.nr said) (fun op hop=>by simp at hop;rw[hop];exact hx.1) (fun i a _ op hop b hb _=>(hnt op (by simp at hop ⊢;exact .inl hop) b hb).elim))
   (fun op hop=>by simp at hop;rw[hop];exact hy.1) (fun i a _ op hop b hb _=>(hnt op (by simp at hop ⊢;exact .inr hop) b hb).elim)
 ·rcases getElem?_append_cases hi with⟨_,hi'⟩|⟨_,hiu⟩
  ·exact Nat.le_succ_of_le (h.gs i op hi')
  ·simp only[List.mem_toArray,List.mem_cons,List.not_mem_nil,or_false] at hiu;rcases hiu with rfl|rfl
   ·rw[hx.1];exact Nat.zero_le _
   ·rw[hy.1];exact Nat.le_refl _
theorem TI.lone(h0:∀ op∈t,op.g=0)(M S:Nat→Loc→Prop):TI Sy t.size B M S t 0:=by
 have kn:∀ i a,touchAt t i=some a→Knows t 0 i:=fun i a ha=>by obtain⟨x,hx,_⟩:=touch_of ha;have:=knows_own hx;rwa [h0 x (Array.mem_of_getElem? hx)] at this
 refine⟨fun i op x hi hlt=>?_,fun g hg i a _ ha=>?_,fun g hg l _ i a ha _=>?_,fun g hg l _ i a ha _ _=>?_,fun said=>?_,fun i op hi=>by rw[h0 op (Array.mem_of_getElem? hi)];exact Nat.le_refl _,fun i op x hi hlt=>?_,fun i op x b hi hlt=>?_⟩
 ·have:=lt_size_of_getElem? hi;omega
 ·obtain rfl:g=0:=by omega
  exact kn i a ha
 ·obtain rfl:g=0:=by omega
  exact kn i a ha
 ·obtain rfl:g=0:=by omega
  exact kn i a ha
 ·have:=noRace_append (said:=said) (t:=#[]) (u:=t) (g:=0) (by rintro⟨i,j,_,⟨a,b,ha,_⟩,_⟩;simp[Trace.act?] at ha) h0 (fun i a ha=>by simp[touchAt,Trace.act?] at ha);simpa using this
 ·have:=lt_size_of_getElem? hi;omega
 ·have:=lt_size_of_getElem? hi;omega
end
end
section
open Go.Conc Go.ConcN
open Go.ConcR (KK wgBlock WgAt stA smA rd wr mk Payload DC0)
section
variable (P:Program)(ty:TypeId)(Wg:Nat)(K:Loc→Prop)
abbrev GX(Stop:Goroutine→World→Prop):Nat→Goroutine→World→Prop:=Goes P true (Rely (WgLive ty Wg) K) DC0 Stop
def XKe(Next:Goroutine→World→Prop)(g:Goroutine)(w:World):Prop:=
 g.status=.running∧∃ g',stepG P true g w=.go g' w #[mk .enable]∧Next g' w
def XSr(Next:Goroutine→World→Prop)(g:Goroutine)(w:World):Prop:=
 g.status=.running∧∃ g' ad,ad.block=Wg∧stepG P true g w=.go g' w #[mk (.read ad)]∧∃ m,GX P ty Wg K (XKe P Next) m g' w
def XA1(Next:Goroutine→World→Prop)(g:Goroutine)(w:World):Prop:=
 g.status=.running∧∀ v:Nat,v<2147483647→WgAt ty Wg w (v*KK) 0 →
  ∃ g',stepG P true g w=.go g' (w.setCell (stA Wg) (.int .u64 ((v+1)*KK))) #[rd (stA Wg),wr (stA Wg)] ∧
   ((∃ m,GX P ty Wg K (XSr P ty Wg K Next) m g' (w.setCell (stA Wg) (.int .u64 ((v+1)*KK))))∨(∃ m,GX P ty Wg K (XKe P Next) m g' (w.setCell (stA Wg) (.int .u64 ((v+1)*KK)))))
def XKd(Next:Goroutine→World→Prop)(g:Goroutine)(w:World):Prop:=
 g.status=.running∧∃ g',stepG P true g w=.go g' w #[mk .disable]∧∃ m,GX P ty Wg K (XA1 P ty Wg K Next) m g' w
def YAcq(Joined:World→Prop)(Next:Goroutine→World→Prop)(g:Goroutine)(w:World):Prop:=
 g.status=.running∧∃ g',stepG P true g w=.go g' w #[mk (.acquire (stA Wg))]∧(Joined w→Next g' w)
variable (Joined:World→Prop)(Next:Goroutine→World→Prop)
def YKe(g:Goroutine)(w:World):Prop:=
 g.status=.running∧∃ g',stepG P true g w=.go g' w #[mk .enable]∧∃ m,GX P ty Wg K (YAcq P Wg Joined Next) m g' w
def YW4(g:Goroutine)(w:World):Prop:=
 g.status=.running∧(WgAt ty Wg w 0 0→∃ g',stepG P true g w=.go g' w #[rd (stA Wg)]∧∃ m,GX P ty Wg K (YKe P ty Wg K Joined Next) m g' w)
def YW3(g:Goroutine)(w:World):Prop:=
 g.status=.running∧g.offers=none ∧
  ((∃ st,WgAt ty Wg w st 0)→stepG P true g w=.go {g with status:=.blocked} w #[]) ∧
  (WgAt ty Wg w 0 1→∃ g',stepG P true g w=.go g' (w.setCell (smA Wg) (.int .u32 0)) (semEvents (smA Wg))∧∃ m,GX P ty Wg K (YW4 P ty Wg K Joined Next) m g' (w.setCell (smA Wg) (.int .u32 0)))
def YSw(g:Goroutine)(w:World):Prop:=
 g.status=.running∧∃ g' ad,ad.block=Wg∧stepG P true g w=.go g' w #[mk (.write ad)]∧∃ m,GX P ty Wg K (YW3 P ty Wg K Joined Next) m g' w
variable (Anch:Goroutine→World→Prop)
def YW2(vs:Nat)(g:Goroutine)(w:World):Prop:=
 g.status=.running∧∀ v:Nat,v<2147483648→WgAt ty Wg w (v*KK) 0 →
  (v=vs→∃ g',stepG P true g w=.go g' (w.setCell (stA Wg) (.int .u64 (v*KK+1))) #[rd (stA Wg),wr (stA Wg)]∧∃ m,GX P ty Wg K (YSw P ty Wg K Joined Next) m g' (w.setCell (stA Wg) (.int .u64 (v*KK+1)))) ∧
  (v≠vs→∃ g',stepG P true g w=.go g' w #[rd (stA Wg)]∧∃ m,GX P ty Wg K Anch m g' w)
def YW1(g:Goroutine)(w:World):Prop:=
 g.status=.running∧∀ v:Nat,v<2147483648→WgAt ty Wg w (v*KK) 0→∃ g',stepG P true g w=.go g' w #[rd (stA Wg)] ∧
  (v=0→∃ m,GX P ty Wg K (YKe P ty Wg K Joined Next) m g' w)∧(v≠0→∃ m,GX P ty Wg K (YW2 P ty Wg K Joined Next Anch v) m g' w)
def YKd(g:Goroutine)(w:World):Prop:=
 g.status=.running∧∃ g',stepG P true g w=.go g' w #[mk .disable]∧∃ m,GX P ty Wg K Anch m g' w
def YFin(g:Goroutine)(w:World):Prop:=
 ∃ Anch,(∀ g w,Anch g w→g.status=.running)∧(∀ g w,Anch g w→∃ m,GX P ty Wg K (YW1 P ty Wg K Joined Next Anch) m g w)∧∃ m,GX P ty Wg K (YKd P ty Wg K Anch) m g w
end
def OldL(w0:World)(l:Loc):Prop:=∃ b,locBlk l=some b∧b<w0.heap.size
structure Crew[Payload] where
 P:Program
 ty:TypeId
 Wg:Nat
 C:Nat
 nC:Nat
 n:Nat
 ResM:Nat→Loc→Prop
 Res:Nat→World→Prop
 q:Nat
 hn:n<2147483647
 hCW:C≠Wg
 w0:World
 hWN:w0.heap.size≤Wg
 hCN:w0.heap.size≤C
 resC:∀ k,¬ ResM k (cellAt C k)
 stable:∀ k w w',Env (ResM k) w w'→Res k w→Res k w'
section
variable [Payload](X:Crew)
def no:Nat→Loc→Prop:=fun _ _=>False
abbrev Crew.L:World→Prop:=WgLive X.ty X.Wg
abbrev Crew.Sy:Loc→Prop:=ShN X.Wg
def Crew.Joined(w:World):Prop:=∀ k,k<X.n→X.Res k w
def WDone(k:Nat)(_:Loc→Prop)(g:Goroutine)(w:World):Prop:=
 X.Res (k-1) w∧∃ v,Goes X.P false (RW X.ty X.Wg X.C X.nC 0 (k-1)) (DWs X.Wg no no X.C X.nC k) (AtR0 X.P X.ty X.Wg X.C X.nC 0 k v) X.q g w
def WWorks(k:Nat)(M S:Loc→Prop)(g:Goroutine)(w:World):Prop:=∃ m,GoesX X.P false S X.L (WDone X k) m M g w
variable (Next:(Loc→Prop)→(Loc→Prop)→Goroutine→World→Prop)
def AtGo(i:Nat)(Then:(Loc→Prop)→(Loc→Prop)→Goroutine→World→Prop)(S M:Loc→Prop)(g:Goroutine)(w:World):Prop:=
 g.status=.running∧∃ g' child,stepG X.P true g w=.spawn g' child w #[]∧child.status=.running∧∃ M' S' Mc Sc:Loc→Prop,
  (∀ l,M' l→M l)∧(∀ l,S' l→S l∨M l)∧(∀ l,Mc l→M l)∧(∀ l,Sc l→S l∨M l)∧(∀ l,M' l→¬ Mc l∧¬ Sc l)∧(∀ l,Mc l→¬ S' l) ∧
  (∀ l,X.ResM i l→Mc l)∧WWorks X (i+1) Mc Sc child w∧Then M' S' g' w
def zRb:Nat→(Loc→Prop)→(Loc→Prop)→Goroutine→World→Prop
 |0,M,S,g,w=>∃ m,GoesX X.P true S X.L (fun M g w=>YFin X.P X.ty X.Wg (fun l=>M l∨S l) X.Joined (Next M S) g w) m M g w
 |r+1,M,S,g,w=>∃ m,GoesX X.P true S X.L (fun M g w=>∃ m,GX X.P X.ty X.Wg (fun l=>M l∨S l) (XKd X.P X.ty X.Wg (fun l=>M l∨S l)
   (fun g w=>∃ m,GoesX X.P true S X.L (fun M g w=>AtGo X (X.n-(r+1)) (zRb r) S M g w) m M g w)) m g w) m M g w
inductive WS(k:Nat)(M S:Loc→Prop):Nat→Nat→Nat→Goroutine→World→Prop where
 |x {m:Nat} {g:Goroutine} {w:World} (h:GoesX X.P false S X.L (WDone X k) m M g w):WS k M S 7 (m+X.q+1) 0 g w
 |lib {s m d:Nat} {v:Value} {g:Goroutine} {w:World} (h:WSit X.P X.ty X.Wg X.C X.nC no no 0 k v s m d g w) (hr:X.Res (k-1) w):WS k M S s m d g w
inductive XT where
 |sp (r s:Nat)|fn|kd|anch|w1|w2 (vs:Nat)|sw|w3|blk|w4|ke|acq
def XT.tag:XT→CTag
 |.sp r s=>.sp r s|.fn=>.kd|.kd=>.kd|.anch=>.anch|.w1=>.w1|.w2 vs=>.w2 vs|.sw=>.w3|.w3=>.w3|.blk=>.blk|.w4=>.w4|.ke=>.ke|.acq=>.acq
def psi(n v:Nat):XT→Nat
 |.sp r s=>8*n+40+16*r+s
 |.fn=>8*n+31
 |.kd=>8*n+30
 |.anch=>8*v+26
 |.w1=>8*v+25
 |.w2 vs=>8*vs+24
 |.sw=>20
 |.w3=>5
 |.blk=>5
 |.w4=>4
 |.ke=>3
 |.acq=>2
inductive XS(M S:Loc→Prop):XT→Nat→Nat→Nat→Goroutine→World→Prop where
 |s6 {r m:Nat} {g:Goroutine} {w:World} (hr:r<X.n) (h:GoesX X.P true S X.L (fun M g w=>∃ m,GX X.P X.ty X.Wg (fun l=>M l∨S l) (XKd X.P X.ty X.Wg (fun l=>M l∨S l)
   (fun g w=>∃ m,GoesX X.P true S X.L (fun M g w=>AtGo X (X.n-(r+1)) (zRb X Next r) S M g w) m M g w)) m g w) m M g w):XS M S (.sp r 6) (X.n-(r+1)) m 0 g w
 |s5 {r m:Nat} {g:Goroutine} {w:World} (hr:r<X.n) (h:GX X.P X.ty X.Wg (fun l=>M l∨S l) (XKd X.P X.ty X.Wg (fun l=>M l∨S l) (fun g w=>∃ m,GoesX X.P true S X.L (fun M g w=>AtGo X (X.n-(r+1)) (zRb X Next r) S M g w) m M g w)) m g w):XS M S (.sp r 5) (X.n-(r+1)) m 0 g w
 |s4 {r m:Nat} {g:Goroutine} {w:World} (hr:r<X.n) (h:GX X.P X.ty X.Wg (fun l=>M l∨S l) (XA1 X.P X.ty X.Wg (fun l=>M l∨S l) (fun g w=>∃ m,GoesX X.P true S X.L (fun M g w=>AtGo X (X.n-(r+1)) (zRb X Next r) S M g w) m M g w)) m g w):XS M S (.sp r 4) (X.n-(r+1)) m 1 g w
 |s3 {r m:Nat} {g:Goroutine} {w:World} (hr:r<X.n) (h:GX X.P X.ty X.Wg (fun l=>M l∨S l) (XSr X.P X.ty X.Wg (fun l=>M l∨S l) (fun g w=>∃ m,GoesX X.P true S X.L (fun M g w=>AtGo X (X.n-(r+1)) (zRb X Next r) S M g w) m M g w)) m g w):XS M S (.sp r 3) (X.n-(r+1)) m 1 g w
 |s2 {r m:Nat} {g:Goroutine} {w:World} (hr:r<X.n) (h:GX X.P X.ty X.Wg (fun l=>M l∨S l) (XKe X.P (fun g w=>∃ m,GoesX X.P true S X.L (fun M g w=>AtGo X (X.n-(r+1)) (zRb X Next r) S M g w) m M g w)) m g w):XS M S (.sp r 2) (X.n-(r+1)) m 1 g w
 |s1 {r m:Nat} {g:Goroutine} {w:World} (hr:r<X.n) (h:GoesX X.P true S X.L (fun M g w=>AtGo X (X.n-(r+1)) (zRb X Next r) S M g w) m M g w):XS M S (.sp r 1) (X.n-(r+1)) m 0 g w
 |fn {m:Nat} {g:Goroutine} {w:World} (h:GoesX X.P true S X.L (fun M g w=>YFin X.P X.ty X.Wg (fun l=>M l∨S l) X.Joined (Next M S) g w) m M g w):XS M S .fn X.n m 0 g w
 |kd {Anch:Goroutine→World→Prop} {m:Nat} {g:Goroutine} {w:World} (ha:∀ g w,Anch g w→g.status=.running) (hn:∀ g w,Anch g w→∃ m,GX X.P X.ty X.Wg (fun l=>M l∨S l) (YW1 X.P X.ty X.Wg (fun l=>M l∨S l) X.Joined (Next M S) Anch) m g w)
   (h:GX X.P X.ty X.Wg (fun l=>M l∨S l) (YKd X.P X.ty X.Wg (fun l=>M l∨S l) Anch) m g w):XS M S .kd X.n m 0 g w
 |anch {Anch:Goroutine→World→Prop} {m:Nat} {g:Goroutine} {w:World} (ha:∀ g w,Anch g w→g.status=.running) (hn:∀ g w,Anch g w→∃ m,GX X.P X.ty X.Wg (fun l=>M l∨S l) (YW1 X.P X.ty X.Wg (fun l=>M l∨S l) X.Joined (Next M S) Anch) m g w)
   (h:GX X.P X.ty X.Wg (fun l=>M l∨S l) Anch m g w):XS M S .anch X.n m 1 g w
 |w1 {Anch:Goroutine→World→Prop} {m:Nat} {g:Goroutine} {w:World} (ha:∀ g w,Anch g w→g.status=.running) (hn:∀ g w,Anch g w→∃ m,GX X.P X.ty X.Wg (fun l=>M l∨S l) (YW1 X.P X.ty X.Wg (fun l=>M l∨S l) X.Joined (Next M S) Anch) m g w)
   (h:GX X.P X.ty X.Wg (fun l=>M l∨S l) (YW1 X.P X.ty X.Wg (fun l=>M l∨S l) X.Joined (Next M S) Anch) m g w):XS M S .w1 X.n m 1 g w
 |w2 {Anch:Goroutine→World→Prop} {vs m:Nat} {g:Goroutine} {w:World} (ha:∀ g w,Anch g w→g.status=.running) (hn:∀ g w,Anch g w→∃ m,GX X.P X.ty X.Wg (fun l=>M l∨S l) (YW1 X.P X.ty X.Wg (fun l=>M l∨S l) X.Joined (Next M S) Anch) m g w)
   (h:GX X.P X.ty X.Wg (fun l=>M l∨S l) (YW2 X.P X.ty X.Wg (fun l=>M l∨S l) X.Joined (Next M S) Anch vs) m g w):XS M S (.w2 vs) X.n m 1 g w
 |sw {m:Nat} {g:Goroutine} {w:World} (h:GX X.P X.ty X.Wg (fun l=>M l∨S l) (YSw X.P X.ty X.Wg (fun l=>M l∨S l) X.Joined (Next M S)) m g w):XS M S .sw X.n m 1 g w
 |w3 {m:Nat} {g:Goroutine} {w:World} (h:GX X.P X.ty X.Wg (fun l=>M l∨S l) (YW3 X.P X.ty X.Wg (fun l=>M l∨S l) X.Joined (Next M S)) m g w):XS M S .w3 X.n (m+1) 1 g w
 |blk {g:Goroutine} {w:World} (h:∀ w1,Rely X.L (fun l=>M l∨S l) w w1→YW3 X.P X.ty X.Wg (fun l=>M l∨S l) X.Joined (Next M S) g w1):XS M S .blk X.n 0 1 {g with status:=.blocked} w
 |w4 {m:Nat} {g:Goroutine} {w:World} (h:GX X.P X.ty X.Wg (fun l=>M l∨S l) (YW4 X.P X.ty X.Wg (fun l=>M l∨S l) X.Joined (Next M S)) m g w):XS M S .w4 X.n m 1 g w
 |ke {m:Nat} {g:Goroutine} {w:World} (h:GX X.P X.ty X.Wg (fun l=>M l∨S l) (YKe X.P X.ty X.Wg (fun l=>M l∨S l) X.Joined (Next M S)) m g w):XS M S .ke X.n m 1 g w
 |acq {m:Nat} {g:Goroutine} {w:World} (h:GX X.P X.ty X.Wg (fun l=>M l∨S l) (YAcq X.P X.Wg X.Joined (Next M S)) m g w):XS M S .acq X.n m 0 g w
end
end
end Go.Cx
